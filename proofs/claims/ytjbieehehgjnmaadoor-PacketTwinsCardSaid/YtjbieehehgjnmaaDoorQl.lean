/- WALK over package packet: Decode. -/
import Derived.Test.YtjbieehehgjnmaaDoorQk
import Derived.Test.YtjbieehehgjnmaaDoorQi
namespace Go.Proofs.YtjbieehehgjnmaaDoor
set_option maxRecDepth 100000
open Go.RowKit
set_option linter.unusedVariables false
set_option linter.unusedSimpArgs false

/-- what Decode answers -/
def DecAns (b : List UInt8) (w w' : World) (e : Ending) : Prop :=
  (∃ (p : Pk) (A : Option Addr) (n c : Nat), IsK b p ∧ e = .returned (.tuple #[pkV p.k p.f p.t p.id p.fi A n c p.ac p.fr p.su, .int .i64 0]) ∧ OB w' w.heap.size (.slice A n c) p.l ∧ p.l.length = n) ∨
  ((∀ p, ¬ IsK b p) ∧ e = .returned (.tuple #[pkV 0 0 0 0 0 none 0 0 0 0 0, .int .i64 1]))
theorem is_sealed {b : List UInt8} {p : Pk} (h : IsK b p) : b = sealK p.body := h.2.2.symm
theorem is_not_sealed {b : List UInt8} (e : Nat) (he : b.length = e + 4) (h : ¬ b = sealK (b.take e)) : ∀ p, ¬ IsK b p := fun p hp => by
  have hs := is_sealed hp
  have h2 := seal_take hs
  have h3 : p.body.length = e := by omega
  rw [← h3, h2.1] at h
  exact h hs
theorem is_short {b : List UInt8} (he : b.length < 4) : ∀ p, ¬ IsK b p := fun p hp => by have := is_long hp; omega
set_option maxHeartbeats 4000000 in
theorem dec_run (A : Option Addr) (l : List UInt8) (n c : Nat) (w : World) (hT : TabW w) (hr : RB w w.heap.size A l) (hn : l.length = n) (hc : n ≤ c) (hm : c ≤ maxLen) (hl : n ≤ 4096) :
    Calls Tryd.prog 16 #[.slice A n c] w fun e w' => DecAns l w w' e ∧ Below w.heap.size w w' := by
  obtain ⟨W1, hW1⟩ : ∃ W1, W1 = w.alloc (pkO 0 0 0 0 0 none 0 0 0 0 0) := ⟨_, rfl⟩
  have B1 : Hid (Below w.heap.size w W1) := by rw [hW1]; exact (Below.refl _ _).alloc (Nat.le_refl _) _
  have S1 : Hid (W1.heap.size = w.heap.size + 1) := by show _ = _; rw [hW1]; simp
  have R1 : Hid (PkM W1 w.heap.size 0 0 0 0 0 none 0 0 0 0 0) := by rw [hW1]; exact PkM.new w _ _ _ _ _ _ _ _ _ _ _
  have T1 : Hid (TabW W1) := hT.below B1.out hT.lt
  have RB1 : Hid (RB W1 W1.heap.size A l) := hr.next B1.out
  have HW1 := Lib.hid hW1
  have HN := Lib.hid hn; have HM := Lib.hid hm; have HL := Lib.hid hl
  clear hT hr hW1 hn hm hl
  by_cases h4 : n < 4
  · have HU := Lib.hid (unseal_less A n c W1 h4)
    have HNO := Lib.hid (is_short (b := l) (by rw [HN.out]; exact h4))
    go_enter Tryd.func16, Tryd.ntmps16
    go_wp2_with fail
    rw [← HW1.out]
    (with_reducible refine HU.out.mono ?_)
    rintro r w2 ⟨rfl, hb2⟩
    have R2 := Lib.hid (R1.out.below hb2 (by rw [S1.out]; omega)); have B2 := Lib.hid (B1.out.trans (hb2.mono B1.out.size))
    clear hb2
    go_wp2_with (first
      | (refine wpList_store_pk rfl (.tmp 2) (.tmp 14) rfl w.heap.size (by rfl) R2.out (by rfl) ?_; intro w5 p5 z5 g5))
    obtain ⟨r0, r1, r2, r3, r4, r5, r6, r7, r8⟩ := p5.c
    refine bodyPost_ret (v := .tuple #[pkV 0 0 0 0 0 none 0 0 0 0 0, .int .i64 1]) (by simp [results, Tryd.results16, go_sem, r0, r1, r2, r3, r4, r5, r6, r7, r8]) rfl ⟨.inr ⟨HNO.out, rfl⟩, ?_⟩
    exact below_row B2.out g5 (Nat.le_refl _)
  · obtain ⟨e, rfl⟩ : ∃ e, n = e + 4 := ⟨n - 4, by omega⟩
    obtain ⟨bs, hbs⟩ : ∃ bs : Bool, decide (l = sealK (l.take e)) = bs := ⟨_, rfl⟩
    have hU := unseal_four A l e c W1 T1.out RB1.out HN.out hc HM.out bs (by rw [← hbs]; exact decide_eq_true_iff)
    cases bs
    · have HU : Hid (Calls Tryd.prog 32 #[.slice A (e + 4 : Nat) c] W1 fun r w' => r = .returned (.tuple #[.slice none 0 0, .bool false]) ∧ Below W1.heap.size W1 w') := hU.mono fun r w' h => ⟨h.2.1 rfl, h.2.2⟩
      have HNO := Lib.hid (is_not_sealed e HN.out (of_decide_eq_false hbs))
      clear hU hbs
      go_enter Tryd.func16, Tryd.ntmps16
      go_wp2_with fail
      rw [← HW1.out]
      (with_reducible refine HU.out.mono ?_)
      rintro r w2 ⟨rfl, hb2⟩
      have R2 := Lib.hid (R1.out.below hb2 (by rw [S1.out]; omega)); have B2 := Lib.hid (B1.out.trans (hb2.mono B1.out.size))
      clear hb2
      go_wp2_with (first
        | (refine wpList_store_pk rfl (.tmp 2) (.tmp 14) rfl w.heap.size (by rfl) R2.out (by rfl) ?_; intro w5 p5 z5 g5))
      obtain ⟨r0, r1, r2, r3, r4, r5, r6, r7, r8⟩ := p5.c
      refine bodyPost_ret (v := .tuple #[pkV 0 0 0 0 0 none 0 0 0 0 0, .int .i64 1]) (by simp [results, Tryd.results16, go_sem, r0, r1, r2, r3, r4, r5, r6, r7, r8]) rfl ⟨.inr ⟨HNO.out, rfl⟩, ?_⟩
      exact below_row B2.out g5 (Nat.le_refl _)
    · have HU : Hid (Calls Tryd.prog 32 #[.slice A (e + 4 : Nat) c] W1 fun r w' => r = .returned (.tuple #[.slice A e c, .bool true]) ∧ Below W1.heap.size W1 w') := hU.mono fun r w' h => ⟨h.1 rfl, h.2.2⟩
      have hseal := of_decide_eq_true hbs
      obtain ⟨x, hx⟩ : ∃ x, l.take e = x := ⟨_, rfl⟩
      rw [hx] at hseal
      have hxl : x.length = e := by rw [← hx, List.length_take, HN.out]; omega
      obtain ⟨q, hq⟩ : ∃ q, (readK x).1 = q := ⟨_, rfl⟩
      obtain ⟨g, hg⟩ : ∃ g, (readK x).2.good = g := ⟨_, rfl⟩
      have HIS : Hid (∀ p, IsK l p ↔ g = true ∧ q = p ∧ p.may) := fun p => by rw [hseal, ← hq, ← hg]; exact is_read x p
      have HXT := Lib.hid hx; have HXL := Lib.hid hxl; have HQ := Lib.hid hq; have HGD := Lib.hid hg
      clear hU hbs hseal hx hxl hq hg
      have hce : e ≤ c := by omega
      cases g
      · have HNO : Hid (∀ p, ¬ IsK l p) := fun p hp => by have := (HIS.out p).1 hp; exact absurd this.1 (by simp)
        go_enter Tryd.func16, Tryd.ntmps16
        go_wp2_with fail
        rw [← HW1.out]
        (with_reducible refine HU.out.mono ?_)
        rintro r w2 ⟨rfl, hb2⟩
        have HR := Lib.hid (pread_any A x e c w2 (by have h := (RB1.out.next hb2).take e; rw [HXT.out] at h; exact h) HXL.out hce HM.out (by have := HL.out; omega))
        unfold ReadK at HR
        rw [HQ.out, HGD.out] at HR
        have R2 := Lib.hid (R1.out.below hb2 (by rw [S1.out]; omega)); have B2 := Lib.hid (B1.out.trans (hb2.mono B1.out.size)); have S2 : Hid (w.heap.size < w2.heap.size) := by show _ < _; have := hb2.size; rw [S1.out] at this; omega
        clear hb2
        go_wp2_with fail
        (with_reducible refine HR.out.mono ?_)
        rintro r w3 ⟨A3, n3, c3, rfl, ho3, hl3, hb3⟩
        have R3 := Lib.hid (R2.out.below hb3 S2.out); have B3 := Lib.hid (B2.out.trans (hb3.mono B2.out.size)); have S3 : Hid (w.heap.size < w3.heap.size) := Nat.lt_of_lt_of_le S2.out hb3.size
        have R4 := Lib.hid (R3.out.below ((Below.refl _ _).alloc (Nat.le_refl _) (pkO q.k q.f q.t q.id q.fi A3 n3 c3 q.ac q.fr q.su)) S3.out)
        clear hb3 ho3 hl3
        go_wp2_with (first
          | (refine wpList_store_pk rfl (.tmp 2) (.tmp 27) rfl w.heap.size (by rfl) R4.out (by rfl) ?_; intro w5 p5 z5 g5))
        obtain ⟨r0, r1, r2, r3, r4, r5, r6, r7, r8⟩ := p5.c
        refine bodyPost_ret (v := .tuple #[pkV 0 0 0 0 0 none 0 0 0 0 0, .int .i64 1]) (by simp [results, Tryd.results16, go_sem, r0, r1, r2, r3, r4, r5, r6, r7, r8]) rfl ⟨.inr ⟨HNO.out, rfl⟩, ?_⟩
        exact below_row (B3.out.alloc B3.out.size _) g5 (Nat.le_refl _)
      · obtain ⟨mb, hmb⟩ : ∃ mb : Bool, decide (mayC q.k q.f q.t q.id q.fi q.ac q.fr q.su q.l.length) = mb := ⟨_, rfl⟩
        have HMB := Lib.hid hmb
        clear hmb
        go_enter Tryd.func16, Tryd.ntmps16
        go_wp2_with fail
        rw [← HW1.out]
        (with_reducible refine HU.out.mono ?_)
        rintro r w2 ⟨rfl, hb2⟩
        have HR := Lib.hid (pread_any A x e c w2 (by have h := (RB1.out.next hb2).take e; rw [HXT.out] at h; exact h) HXL.out hce HM.out (by have := HL.out; omega))
        unfold ReadK at HR
        rw [HQ.out, HGD.out] at HR
        have R2 := Lib.hid (R1.out.below hb2 (by rw [S1.out]; omega)); have B2 := Lib.hid (B1.out.trans (hb2.mono B1.out.size)); have S2 : Hid (w.heap.size < w2.heap.size) := by show _ < _; have := hb2.size; rw [S1.out] at this; omega
        clear hb2
        go_wp2_with fail
        (with_reducible refine HR.out.mono ?_)
        rintro r w3 ⟨A3, n3, c3, rfl, ho3, hl3, hb3⟩
        have R3 := Lib.hid (R2.out.below hb3 S2.out); have B3 := Lib.hid (B2.out.trans (hb3.mono B2.out.size)); have S3 : Hid (w.heap.size < w3.heap.size) := Nat.lt_of_lt_of_le S2.out hb3.size
        have a4 : Below w3.heap.size w3 (w3.alloc (pkO q.k q.f q.t q.id q.fi A3 n3 c3 q.ac q.fr q.su)) := (Below.refl _ _).alloc (Nat.le_refl _) _
        have a5 : Below w3.heap.size w3 ((w3.alloc (pkO q.k q.f q.t q.id q.fi A3 n3 c3 q.ac q.fr q.su)).alloc (pkO q.k q.f q.t q.id q.fi A3 n3 c3 q.ac q.fr q.su)) := a4.alloc a4.size _
        obtain ⟨A3', cc, hform, hnc3, hcm3, -⟩ := ho3.form_n n3 hl3
        injection hform with f1 f2 f3
        subst f1 f3
        have R5 := Lib.hid (R3.out.below a5 S3.out); have B5 := Lib.hid (B3.out.trans (a5.mono B3.out.size))
        have O5 := Lib.hid (ho3.below a5 (Nat.le_refl _))
        have hm3 := may_any q.k q.f q.t q.id q.fi A3 n3 c3 q.ac q.fr q.su mb (by rw [← HMB.out, ← hl3]) (w3.alloc (pkO q.k q.f q.t q.id q.fi A3 n3 c3 q.ac q.fr q.su)) (Nat.le_trans hnc3 hcm3)
        have HM3 := Lib.hid hm3
        have HL3 := Lib.hid hl3
        clear hb3 ho3 hl3 a4 a5 hcm3 hm3
        cases mb
        · have HNO : Hid (∀ p, ¬ IsK l p) := fun p hp => by
            obtain ⟨-, e2, e3⟩ := (HIS.out p).1 hp
            subst e2
            exact (of_decide_eq_false HMB.out) e3
          go_wp2_with (first
            | (go_at_call 13; (with_reducible refine HM3.out.mono ?_); rintro r w4 ⟨rfl, rfl⟩)
            | (refine wpList_store_pk rfl (.tmp 2) (.tmp 27) rfl w.heap.size (by rfl) R5.out (by rfl) ?_; intro w5 p5 z5 g5))
          obtain ⟨r0, r1, r2, r3, r4, r5, r6, r7, r8⟩ := p5.c
          refine bodyPost_ret (v := .tuple #[pkV 0 0 0 0 0 none 0 0 0 0 0, .int .i64 1]) (by simp [results, Tryd.results16, go_sem, r0, r1, r2, r3, r4, r5, r6, r7, r8]) rfl ⟨.inr ⟨HNO.out, rfl⟩, ?_⟩
          exact below_row B5.out g5 (Nat.le_refl _)
        · have HYES : Hid (IsK l q) := (HIS.out q).2 ⟨by first | rfl | trivial, rfl, of_decide_eq_true (p := mayC q.k q.f q.t q.id q.fi q.ac q.fr q.su q.l.length) HMB.out⟩
          go_wp2_with (first
            | (go_at_call 13; (with_reducible refine HM3.out.mono ?_); rintro r w4 ⟨rfl, rfl⟩)
            | (refine wpList_store_pk rfl (.tmp 2) (.tmp 28) rfl w.heap.size (by rfl) R5.out (by rfl) ?_; intro w5 p5 z5 g5))
          obtain ⟨r0, r1, r2, r3, r4, r5, r6, r7, r8⟩ := p5.c
          refine bodyPost_ret (v := .tuple #[pkV q.k q.f q.t q.id q.fi A3 n3 c3 q.ac q.fr q.su, .int .i64 0]) (by simp [results, Tryd.results16, go_sem, r0, r1, r2, r3, r4, r5, r6, r7, r8]) rfl ⟨.inl ⟨q, A3, n3, c3, HYES.out, rfl, ?_, HL3.out⟩, ?_⟩
          · have hs2 : w.heap.size < w2.heap.size := S2.out
            have ho := OB.kept_gr O5.out g5 hs2
            exact ho.less (by omega)
          · exact below_row B5.out g5 (Nat.le_refl _)
end Go.Proofs.YtjbieehehgjnmaaDoor
