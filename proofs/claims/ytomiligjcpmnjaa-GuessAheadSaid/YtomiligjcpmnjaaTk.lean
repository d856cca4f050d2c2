/- WALKS: package guess: Ahead of anything, Differs; begun of layer 19. -/
import Derived.Test.YtomiligjcpmnjaaTj
import Derived.Test.YtomiligjcpmnjaaXk
namespace Go.Proofs.Ytomiligjcpmnjaa
set_option maxRecDepth 100000
open Go.RowKit Go.Maps
set_option linter.unusedVariables false
set_option linter.unusedSimpArgs false

/-- what Ahead answers -/
def aheadG (may : Bool) (b : Kd) (r t : Int) (ls : List (List UInt8)) (F p0 : Nat) : List (List UInt8) := if 0 ≤ r ∧ (F : Int) < t ∧ t ≤ 1000 ∧ may = true then rowsP b r.toNat t.toNat ls F p0 else []
theorem ahead_gen (w : World) (q rr : Nat) (xs : List Ln) (h : QM w q rr xs) (n : Nat) (hn : xs.length = n) (h0 : 0 < n) (h8 : n ≤ 8) (F : Nat) (hF : frontN xs = F) (z o : Int) (A : Option Addr) (X c : Nat) (tb : List UInt8) (hp : PM w A tb X c) (r t : Int) (p0 : Nat) (hp0 : F < 1000 → First (xs.map Ln.l) F p0) (may : Bool) (hmay : mayB z o X = may) (R : List (List UInt8)) (hR : aheadG may ⟨z.toNat, o.toNat, tb⟩ r t (xs.map Ln.l) F p0 = R) :
    Calls Try.prog 13 #[pB q, .agg #[.int .i64 z, .int .i64 o, .slice A X c], .int .i64 r, .int .i64 t] w fun e w' => ∃ A' c', e = .returned (.slice A' R.length c') ∧ RR w' w'.heap.size A' R ∧ Below w.heap.size w w' := by
  unfold aheadG at hR
  by_cases hc : 0 ≤ r ∧ (F : Int) < t ∧ t ≤ 1000 ∧ may = true
  · rw [if_pos hc] at hR
    obtain ⟨c1, c2, c3, c4⟩ := hc
    rw [c4] at hmay
    have hFt : F < t.toNat := by omega
    obtain ⟨hk, hz, ho⟩ : KM w (Kd.mk z.toNat o.toNat tb) A X c ∧ z = (((Kd.mk z.toNat o.toNat tb).k : Nat) : Int) ∧ o = (((Kd.mk z.toNat o.toNat tb).o : Nat) : Int) := by
      have h1 := of_decide_eq_true hmay
      have hl := hp.len
      refine ⟨⟨?_, hp.len, hp.nc, hp.cm, hp.t⟩, ?_, ?_⟩
      · unfold Kd.ok
        simp only
        rcases h1 with ⟨q1, q2, q3⟩ | ⟨q1, q2, q3, q4⟩ | ⟨q1, q2, q3, q4⟩
        · exact .inl ⟨by omega, by omega, List.eq_nil_of_length_eq_zero (by omega)⟩
        · exact .inr (.inl ⟨by omega, by omega, List.eq_nil_of_length_eq_zero (by omega)⟩)
        · exact .inr (.inr ⟨by omega, by omega, by omega, by omega⟩)
      · show z = ((z.toNat : Nat) : Int); omega
      · show o = ((o.toNat : Nat) : Int); omega
    have hr : r = (r.toNat : Int) := by omega
    have ht : t = (t.toNat : Int) := by omega
    have := ahead_in w q rr xs h n hn h0 h8 F hF _ z o hz ho A X c hk r.toNat t.toNat hFt (by omega) p0 (hp0 (by omega))
    rw [← hr, ← ht] at this
    refine this.mono fun e w' ⟨G, he, h2, h3⟩ => ⟨some ⟨G, 0, none⟩, t.toNat - F, by rw [he, ← hR, rowsP_len], by rw [← hR]; exact h2, h3⟩
  · rw [if_neg hc] at hR
    subst hR
    have hX : X ≤ maxLen := Nat.le_trans hp.nc hp.cm
    refine (ahead_none w q rr xs h n hn h0 h8 F hF z o A X c hX r t ?_).mono fun e w' ⟨he, hb⟩ => ⟨none, 0, he, RR.nil _ _ _, hb⟩
    by_cases q1 : r < 0
    · exact .inl q1
    by_cases q2 : t ≤ (F : Int)
    · exact .inr (.inl q2)
    by_cases q3 : 1000 < t
    · exact .inr (.inr (.inl q3))
    · refine .inr (.inr (.inr ?_))
      cases may with
      | true => exact absurd ⟨by omega, by omega, by omega, rfl⟩ hc
      | false => exact hmay
theorem differs_any (w : World) (v : Value) (z o : Int) (A : Option Addr) (X c : Nat) (r : Int) (d : Bool) (hd : decide (1 ≤ r ∧ r < 256) = d) :
    Calls Try.prog 16 #[v, .agg #[.int .i64 z, .int .i64 o, .slice A X c], .int .i64 r] w fun e w' => e = .returned (.bool d) ∧ Below w.heap.size w w' := by
  have hb : Below w.heap.size w (w.alloc (.cells #[.int .i64 z, .int .i64 o, .slice A X c] 39)) := (Below.refl _ _).alloc (Nat.le_refl _) _
  have HB := Lib.hid hb
  clear hb
  by_cases h1 : 1 ≤ r
  · by_cases h2 : r < 256
    · rw [decide_eq_true ⟨h1, h2⟩] at hd
      subst hd
      go_enter Try.func16, Try.ntmps16
      go_wp2
      go_ret
      exact ⟨rfl, HB.out⟩
    · rw [decide_eq_false (fun x => h2 x.2)] at hd
      subst hd
      go_enter Try.func16, Try.ntmps16
      go_wp2
      go_ret
      exact ⟨rfl, HB.out⟩
  · rw [decide_eq_false (fun x => h1 x.1)] at hd
    subst hd
    go_enter Try.func16, Try.ntmps16
    go_wp2
    go_ret
    exact ⟨rfl, HB.out⟩
/-- a kind without a table -/
theorem pm_none (w : World) : PM w none [] 0 0 := ⟨rfl, Nat.le_refl _, by unfold maxLen; omega, RB.nil _ _ _⟩
theorem two_nil {xs : List Ln} (h : xs.map Ln.l = List.replicate 2 (zB 0)) : ∃ a b, xs = [⟨a, []⟩, ⟨b, []⟩] := by
  have hl : xs.length = 2 := by have := congrArg List.length h; simpa using this
  match xs, hl with
  | [⟨a, x⟩, ⟨b, y⟩], _ =>
    simp [zB, List.replicate] at h
    obtain ⟨rfl, rfl⟩ := h
    exact ⟨a, b, rfl⟩
def ls56 : List (List UInt8) := [[5, 6], []]
set_option maxHeartbeats 4000000 in
theorem g1 : aheadG true kL 0 3 ls56 0 1 = [[5, 0], [6, 0], [6, 0]] := by decide +kernel
set_option maxHeartbeats 4000000 in
theorem g2 : aheadG true kL 1 2 ls56 0 1 = [[5, 1], [6, 1]] := by decide +kernel
theorem first56 : First ls56 0 1 := by
  refine ⟨by decide, by decide, fun p hp => ?_⟩
  obtain rfl : p = 0 := by omega
  decide
set_option maxHeartbeats 4000000 in
theorem begun19_any (w : World) : Calls Try.prog 8 #[] w fun e w' => e = .returned (.bool true) ∧ Below w.heap.size w w' := by
  have HN := Lib.hid (qf_new w w (Below.refl _ _) noB (no_noB w w) 2 0 2 0 (by omega) (by omega))
  go_enter Try.func8, Try.ntmps8
  go_wp2_with fail
  (with_reducible refine HN.out.mono ?_)
  rintro e w1 ⟨q, r, xs, rfl, F1, hmp, -⟩
  obtain ⟨a, b, rfl⟩ := two_nil hmp
  have L0 := Lib.hid (line_in w1 q r _ F1.qm 0 0 rfl ⟨a, []⟩ rfl)
  obtain ⟨w2, hw2⟩ : ∃ w2, w1.alloc (.cells #[.int .u8 5, .int .u8 6] 5) = w2 := ⟨_, rfl⟩
  have b2 : Below w1.heap.size w1 w2 := by rw [← hw2]; exact (Below.refl _ _).alloc (Nat.le_refl _) _
  have r2 : RB w2 w2.heap.size (some ⟨w1.heap.size, 0, none⟩) [5, 6] := by
    rw [← hw2]
    exact rb_cells w1 [5, 6] 5 _ (by simp)
  have HP := Lib.hid (qf_put (F1.belows b2) 0 a [] [5, 6] rfl 0 (some ⟨w1.heap.size, 0, none⟩) 2 _ 2 rfl r2 (Nat.le_refl _) (by unfold maxLen; omega) 2 0 [5, 6] (by decide))
  rw [← hw2] at HP
  clear HN hmp F1 b2 r2 hw2
  go_wp2_with (go_at_call 20; with_reducible refine L0.out.mono ?_; rintro e w3 ⟨rfl, rfl⟩)
  (with_reducible refine HP.out.mono ?_)
  rintro e w3 ⟨rfl, F3, -⟩
  obtain ⟨w4, hw4⟩ : ∃ w4, w3.alloc (.cells #[.int .i64 1, .int .i64 0, .slice none 0 0] 39) = w4 := ⟨_, rfl⟩
  have b4 : Below w3.heap.size w3 w4 := by rw [← hw4]; exact (Below.refl _ _).alloc (Nat.le_refl _) _
  have s4 : w4.heap.size = w3.heap.size + 1 := by rw [← hw4]; simp
  have BX4 : Hid (Box3 w4 w3.heap.size 1 0 none 0 0) := by rw [← hw4]; exact by_box w3 1 0 none 0 0
  have F4 := Lib.hid (F3.belows b4)
  have HA1 := Lib.hid (ahead_gen w4 q r _ F4.out.qm 2 rfl (by omega) (by omega) 0 (by rfl) 1 0 none 0 0 [] (pm_none w4) 0 3 1 (fun _ => first56) true (by decide) _ g1)
  have S4 := Lib.hid s4
  have HW4 := Lib.hid hw4
  rw [← hw4] at HA1
  clear L0 HP F3 hw4 b4 s4
  go_wp2_with fail
  (with_reducible refine HA1.out.mono ?_)
  rintro e w5 ⟨A5, c5, rfl, R5, b5⟩
  rw [HW4.out] at b5
  have F5 := Lib.hid (F4.out.belows b5)
  have R5h := Lib.hid R5
  obtain ⟨q0, q1, q2⟩ := BX4.out w5 (by rw [← S4.out]; exact b5)
  have b45 : Below (w3.heap.size + 1) w4 w5 := by rw [← S4.out]; exact b5
  have B45 := Lib.hid b45
  have HA2 := Lib.hid (ahead_gen w5 q r _ F5.out.qm 2 rfl (by omega) (by omega) 0 (by rfl) 1 0 none 0 0 [] (pm_none w5) 1 2 1 (fun _ => first56) true (by decide) _ g2)
  clear HA1 R5 b5 b45 HW4 F4
  go_wp2_with fail
  (with_reducible refine HA2.out.mono ?_)
  rintro e w6 ⟨A6, c6, rfl, R6, b6⟩
  have F6 := Lib.hid (F5.out.belows b6)
  have b46 : Below (w3.heap.size + 1) w4 w6 := B45.out.trans (b6.mono (by have := B45.out.size; rw [S4.out] at this; exact this))
  have R5' := R5h.out.then_ (Nat.le_refl _) b6
  obtain ⟨g5, a50, c50, rfl, k50, s50⟩ := R5'.at 0 [5, 0] rfl 2 rfl
  obtain ⟨g5', a52, c52, e5, k52, s52⟩ := R5'.at 2 [6, 0] rfl 2 rfl
  obtain rfl : g5' = g5 := by injection e5 with e; injection e with e; exact e.symm
  obtain ⟨g6, a60, c60, rfl, k60, s60⟩ := R6.at 0 [5, 1] rfl 2 rfl
  obtain ⟨g6', a61, c61, e6, k61, s61⟩ := R6.at 1 [6, 1] rfl 2 rfl
  obtain rfl : g6' = g6 := by injection e6 with e; injection e with e; exact e.symm
  have v50 : (convert 23 9 (.slice a50 2 c50)).run Try.prog w6 = .ok (.string ⟨#[5, 0]⟩) w6 := conv_rb s50 2 c50 rfl
  have v52 : (convert 23 9 (.slice a52 2 c52)).run Try.prog w6 = .ok (.string ⟨#[6, 0]⟩) w6 := conv_rb s52 2 c52 rfl
  have v60 : (convert 23 9 (.slice a60 2 c60)).run Try.prog w6 = .ok (.string ⟨#[5, 1]⟩) w6 := conv_rb s60 2 c60 rfl
  have v61 : (convert 23 9 (.slice a61 2 c61)).run Try.prog w6 = .ok (.string ⟨#[6, 1]⟩) w6 := conv_rb s61 2 c61 rfl
  clear e5 e6 s50 s52 s60 s61 R6 R5' q0 q1 q2
  obtain ⟨q0, q1, q2⟩ := BX4.out w6 b46
  have B46 := Lib.hid b46
  have HD := Lib.hid (differs_any w6 (pB q) 1 0 none 0 0 0 false (by decide))
  clear b46 b6 HA2 R5h F5 B45
  go_wp2_with fail
  (with_reducible refine HD.out.mono ?_)
  rintro e w7 ⟨rfl, b7⟩
  have F7 := Lib.hid (F6.out.belows b7)
  have b47 : Below (w3.heap.size + 1) w4 w7 := B46.out.trans (b7.mono (by have := B46.out.size; rw [S4.out] at this; exact this))
  clear q0 q1 q2 v50 v52 v60 v61 k50 k52 k60 k61
  obtain ⟨q0, q1, q2⟩ := BX4.out w7 b47
  have HD2 := Lib.hid (differs_any w7 (pB q) 1 0 none 0 0 1 true (by decide))
  clear b47 b7
  go_wp2_with fail
  (with_reducible refine HD2.out.mono ?_)
  rintro e w8 ⟨rfl, b8⟩
  have F8 := Lib.hid (F7.out.belows b8)
  clear b8 q0 q1 q2
  go_wp2_with fail
  go_ret
  exact ⟨rfl, F8.out.be⟩
end Go.Proofs.Ytomiligjcpmnjaa
