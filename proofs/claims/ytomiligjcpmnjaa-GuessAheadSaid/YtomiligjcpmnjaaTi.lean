/- WALKS: slices.Index of bools; package guess: ranked, Ahead of what may not be. -/
import Derived.Test.YtomiligjcpmnjaaTh
namespace Go.Proofs.Ytomiligjcpmnjaa
set_option maxRecDepth 100000
open Go.RowKit Go.Maps
set_option linter.unusedVariables false
set_option linter.unusedSimpArgs false

set_option maxHeartbeats 1000000 in
theorem index_any (w : World) (base : Nat) (v : Value) (bs : List Bool) (h : OW w base v bs) (n : Nat) (hn : bs.length = n) (hn1 : n ≤ 1000) (p : Nat) (hp : bs[p]? = some false) (hlt : ∀ j, j < p → bs[j]? = some true) :
    Calls Try.prog 27 #[v, .bool false] w fun e w' => e = .returned (.int .i64 (p : Int)) ∧ w = w' := by
  obtain ⟨A, c, rfl, hc, hk⟩ := h.form n hn
  have hpn : p < n := by rw [← hn]; exact (List.getElem?_eq_some_iff.1 hp).1
  obtain ⟨g, rfl, -, -⟩ := hk p (by omega)
  have HC : Hid (∀ j (hj : j < bs.length), w.cell? ⟨g, j, none⟩ = some (.bool bs[j])) := fun j hj => by
    obtain ⟨g', e, _, hc'⟩ := hk j hj
    injection e with e; injection e with e
    rw [e]; exact hc'
  have HP := Lib.hid hp; have HL := Lib.hid hlt; have HN := Lib.hid hn
  clear h hk hn hp hlt hc
  go_enter Try.func27, Try.ntmps27
  go_wp2_with fail
  go_loopw [5, 8] (fun a i wr => ∃ k : Nat, i = .int .i64 (k : Int) ∧ k ≤ p ∧ wr = w) (fun _ i _ => p - (intOf i).toNat)
  case atStart => exact ⟨0, rfl, by omega, rfl⟩
  case round =>
    obtain ⟨k, rfl, hk, rfl⟩ := hrel
    have hkn : (k : Int) < (n : Int) := by omega
    by_cases hlt : k < p
    · have c1 := HC.out k (by rw [HN.out]; omega)
      have e1 : bs[k]'(by rw [HN.out]; omega) = true := by
        have := HL.out k hlt
        rw [List.getElem?_eq_getElem (by rw [HN.out]; omega)] at this
        exact Option.some.inj this
      rw [e1] at c1
      have hk2 : Hid (k + 1 ≤ p) := hlt
      have hms : Hid (p - (k + 1) < p - k) := by show _ < _; omega
      clear e1
      go_wp2
      go_roundw
      case rel => exact ⟨k + 1, by go_num, hk2.out, trivial⟩
      case measure => simp [intOf]; have := hms.out; omega
    · obtain rfl : k = p := by omega
      have c1 := HC.out k (by rw [HN.out]; omega)
      have e1 : bs[k]'(by rw [HN.out]; omega) = false := by
        have := HP.out
        rw [List.getElem?_eq_getElem (by rw [HN.out]; omega)] at this
        exact Option.some.inj this
      rw [e1] at c1
      clear e1
      go_wp2
      go_ret
      exact ⟨rfl, rfl⟩
/-- the box of a kind, as the callee has it -/
theorem by_box (w : World) (z o : Int) (A : Option Addr) (X c : Nat) : Box3 (w.alloc (.cells #[.int .i64 z, .int .i64 o, .slice A X c] 39)) w.heap.size z o A X c := box3 (heap_alloc_last w _)
set_option maxHeartbeats 1000000 in
theorem ranked_any (b : Kd) (z o : Int) (hz : z = (b.k : Int)) (ho : o = (b.o : Int)) (A : Option Addr) (X c : Nat) (P : Option Addr) (p : List UInt8) (L pc : Nat) (r : Int) (R : Nat) (hR : r = (R : Int)) (hr : R < 256) (w : World) (hk : KM w b A X c) (hp : PM w P p L pc) (hl : L ≤ 2000) (y : UInt8) (hy : (rk (sc b p)).getD R 0 = y) :
    Calls Try.prog 30 #[.agg #[.int .i64 z, .int .i64 o, .slice A X c], .slice P L pc, .int .i64 r] w fun e w' => e = .returned (vb y) ∧ Below w.heap.size w w' := by
  subst hR
  obtain ⟨w2, hw2⟩ : ∃ w2, w.alloc (.cells #[.int .i64 z, .int .i64 o, .slice A X c] 39) = w2 := ⟨_, rfl⟩
  have b2 : Below w.heap.size w w2 := by rw [← hw2]; exact (Below.refl _ _).alloc (Nat.le_refl _) _
  obtain ⟨S, hS⟩ : ∃ S, (rk (sc b p)).take (R + 1) = S := ⟨_, rfl⟩
  have HK := Lib.hid (rank_at b z o hz ho A X c P p L pc ((R : Int) + 1) w2 (hk.then_ b2) (hp.then_ b2) hl (R + 1) (by omega) S hS)
  have HS : Hid (S.length = R + 1 ∧ S.getD R 0 = y) := by
    refine ⟨by rw [← hS, List.length_take, rk_len]; omega, ?_⟩
    rw [← hS, ← hy]
    simp only [List.getD, List.getElem?_take, Nat.lt_succ_self, if_true]
  have B2 := Lib.hid b2
  rw [← hw2] at HK
  have HW := Lib.hid hw2
  clear hk hp b2 hw2 hS hy hz ho
  go_enter Try.func30, Try.ntmps30
  go_wp2_with fail
  (with_reducible refine HK.out.mono ?_)
  rintro e w3 ⟨⟨g, rfl, -, hR⟩, hb⟩
  rw [HW.out] at hb
  have HB := Lib.hid (B2.out.trans (hb.mono B2.out.size))
  obtain ⟨b', off, e, -, hc⟩ := hR (by rw [HS.out.1]; omega)
  injection e with e; injection e with e1 e2
  subst e1 e2
  have c1 := hc R (by rw [HS.out.1]; omega)
  have e3 : S[R]'(by rw [HS.out.1]; omega) = y := by
    have := HS.out.2
    rw [List.getD, List.getElem?_eq_getElem (by rw [HS.out.1]; omega)] at this
    exact this
  rw [e3, Nat.zero_add] at c1
  unfold vb at c1
  have hRz : (R : Int) < (R : Int) + 1 := by omega
  clear hc hR hb e3 HK HW
  go_wp2
  go_ret
  exact ⟨rfl, HB.out⟩
set_option maxHeartbeats 2000000 in
theorem ahead_none (w : World) (q rr : Nat) (xs : List Ln) (h : QM w q rr xs) (n : Nat) (hn : xs.length = n) (h0 : 0 < n) (h8 : n ≤ 8) (F : Nat) (hF : frontN xs = F) (z o : Int) (A : Option Addr) (X c : Nat) (hX : X ≤ maxLen) (r t : Int)
    (hno : r < 0 ∨ t ≤ (F : Int) ∨ 1000 < t ∨ mayB z o X = false) :
    Calls Try.prog 13 #[pB q, .agg #[.int .i64 z, .int .i64 o, .slice A X c], .int .i64 r, .int .i64 t] w fun e w' => e = .returned (.slice none 0 0) ∧ Below w.heap.size w w' := by
  obtain ⟨w2, hw2⟩ : ∃ w2, w.alloc (.cells #[.int .i64 z, .int .i64 o, .slice A X c] 39) = w2 := ⟨_, rfl⟩
  have b2 : Below w.heap.size w w2 := by rw [← hw2]; exact (Below.refl _ _).alloc (Nat.le_refl _) _
  have HFr := Lib.hid (front_any w2 q rr xs (h.belows b2) (by omega) (by omega) F hF)
  have HN := Lib.hid (qn_any w2 q rr xs (h.belows b2) n hn)
  have HM := Lib.hid (fun r' hr' => may_at z o A X c w2 hX r' hr')
  have B2 := Lib.hid b2
  have HW := Lib.hid hw2
  rw [← hw2] at HFr HN HM
  have hnz : ((n : Int) == 0) = false := by simp; omega
  clear h hn hF b2 hw2
  by_cases h1 : r < 0
  · clear hno HM
    go_enter Try.func13, Try.ntmps13
    go_wp2_with (first
      | (go_at_call 18; with_reducible refine HFr.out.mono ?_; rintro e w3 ⟨rfl, rfl⟩)
      | (go_at_call 25; with_reducible refine HN.out.mono ?_; rintro e w3 ⟨rfl, rfl⟩))
    go_ret
    exact ⟨rfl, by rw [HW.out]; exact B2.out⟩
  by_cases h2 : t ≤ (F : Int)
  · clear hno HM
    go_enter Try.func13, Try.ntmps13
    go_wp2_with (first
      | (go_at_call 18; with_reducible refine HFr.out.mono ?_; rintro e w3 ⟨rfl, rfl⟩)
      | (go_at_call 25; with_reducible refine HN.out.mono ?_; rintro e w3 ⟨rfl, rfl⟩))
    go_ret
    exact ⟨rfl, by rw [HW.out]; exact B2.out⟩
  by_cases h3 : 1000 < t
  · clear hno HM
    go_enter Try.func13, Try.ntmps13
    go_wp2_with (first
      | (go_at_call 18; with_reducible refine HFr.out.mono ?_; rintro e w3 ⟨rfl, rfl⟩)
      | (go_at_call 25; with_reducible refine HN.out.mono ?_; rintro e w3 ⟨rfl, rfl⟩))
    go_ret
    exact ⟨rfl, by rw [HW.out]; exact B2.out⟩
  · have h4 : mayB z o X = false := by
      rcases hno with q | q | q | q
      · exact absurd q h1
      · exact absurd q h2
      · exact absurd q h3
      · exact q
    have HM2 := Lib.hid (HM.out false h4)
    clear hno HM h4
    go_enter Try.func13, Try.ntmps13
    go_wp2_with (first
      | (go_at_call 18; with_reducible refine HFr.out.mono ?_; rintro e w3 ⟨rfl, rfl⟩)
      | (go_at_call 25; with_reducible refine HN.out.mono ?_; rintro e w3 ⟨rfl, rfl⟩)
      | (go_at_call 26; with_reducible refine HM2.out.mono ?_; rintro e w3 ⟨rfl, hb⟩; rw [HW.out] at hb; have HB := Lib.hid (B2.out.trans (hb.mono B2.out.size)); clear hb))
    go_ret
    exact ⟨rfl, HB.out⟩
end Go.Proofs.Ytomiligjcpmnjaa
