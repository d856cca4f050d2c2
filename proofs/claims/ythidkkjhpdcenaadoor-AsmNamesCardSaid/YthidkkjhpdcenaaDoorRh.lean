/- THE WALK: runes.Number. -/
import Derived.Test.YthidkkjhpdcenaaDoorRg
namespace Go.Proofs.YthidkkjhpdcenaaDoor
open Go.RowKit

/-! ### plain: a text as a number, byte by byte, as the code goes -/
def nGo : Bool → Int → Int → Int → List UInt8 → Option Int
  | _, n, sg, dg, [] => if dg = 0 ∨ (sg < 0 ∧ n = 0) then none else some n
  | first, n, sg, dg, c :: r =>
    if first = true ∧ c.toNat = 45 then nGo false n (-1) dg r
    else if c.toNat < 48 ∨ 57 < c.toNat ∨ (0 < dg ∧ n = 0) then none
    else if 10 * n + sg * ((c.toNat : Int) - 48) < -2147483648 ∨ 2147483647 < 10 * n + sg * ((c.toNat : Int) - 48) then none
    else nGo false (10 * n + sg * ((c.toNat : Int) - 48)) sg (dg + 1) r
def numT (s : ByteArray) : Option Int := nGo true 0 1 0 (lst s)
def numVal (o : Option Int) : Value := .tuple #[.int .i64 (o.getD 0), .bool o.isSome]

theorem dec_low (s : ByteArray) (p : Nat) (h : p < s.size) (hr : (Utf8.decode s p).1 < 128) : (Utf8.decode s p).2 = 1 ∧ (s[p]'h).toNat = (Utf8.decode s p).1 := by
  by_cases ha : (s[p]'h).toNat < 128
  · rw [decode_ascii s p h ha]; exact ⟨rfl, rfl⟩
  · have := (decode_high s p h (by omega)).1
    omega
theorem dec_up (s : ByteArray) (p : Nat) (h : p < s.size) (hr : 128 ≤ (Utf8.decode s p).1) : 128 ≤ (s[p]'h).toNat := by
  by_cases ha : (s[p]'h).toNat < 128
  · rw [decode_ascii s p h ha] at hr; simp only at hr; omega
  · omega

theorem nGo_minus (first : Bool) (n sg dg : Int) (c : UInt8) (r : List UInt8) (h1 : first = true) (h2 : c.toNat = 45) : nGo first n sg dg (c :: r) = nGo false n (-1) dg r := by
  rw [nGo, if_pos ⟨h1, h2⟩]
theorem nGo_none (first : Bool) (n sg dg : Int) (c : UInt8) (r : List UInt8) (h1 : ¬ (first = true ∧ c.toNat = 45)) (h2 : c.toNat < 48 ∨ 57 < c.toNat ∨ (0 < dg ∧ n = 0)) : nGo first n sg dg (c :: r) = none := by
  rw [nGo, if_neg h1, if_pos h2]
theorem nGo_far (first : Bool) (n sg dg : Int) (c : UInt8) (r : List UInt8) (h2 : 48 ≤ c.toNat ∧ c.toNat ≤ 57 ∧ ¬ (0 < dg ∧ n = 0)) (z : Int) (hz : z = 10 * n + sg * ((c.toNat : Int) - 48)) (h : z < -2147483648 ∨ 2147483647 < z) : nGo first n sg dg (c :: r) = none := by
  subst hz
  rw [nGo, if_neg (by omega), if_neg (by omega), if_pos h]
theorem nGo_go (first : Bool) (n sg dg : Int) (c : UInt8) (r : List UInt8) (h2 : 48 ≤ c.toNat ∧ c.toNat ≤ 57 ∧ ¬ (0 < dg ∧ n = 0)) (z : Int) (hz : z = 10 * n + sg * ((c.toNat : Int) - 48)) (h : ¬ (z < -2147483648 ∨ 2147483647 < z)) : nGo first n sg dg (c :: r) = nGo false z sg (dg + 1) r := by
  subst hz
  rw [nGo, if_neg (by omega), if_neg (by omega), if_neg h]

set_option maxRecDepth 100000 in
set_option maxHeartbeats 1000000 in
theorem number_any (s : ByteArray) (w : World) (hs : s.size ≤ maxLen) :
    Calls Tryd.prog 60 #[.string s] w fun e w' => e = .returned (numVal (numT s)) ∧ Below w.heap.size w w' := by
  unfold maxLen at hs
  go_enter Tryd.func60, Tryd.ntmps60
  go_wp2
  go_loopw [4, 5, 6] (fun nv sv dv wr => ∃ (p : Nat) (n sg dg : Int), wr = w.iter s p ∧ nv = .int .i64 n ∧ sv = .int .i64 sg ∧ dv = .int .i64 dg ∧ p ≤ s.size ∧ (sg = 1 ∨ sg = -1) ∧ -2147483648 ≤ n ∧ n ≤ 2147483647 ∧ 0 ≤ dg ∧ dg ≤ p ∧ Hid (nGo (decide (p = 0)) n sg dg ((lst s).drop p) = numT s)) (fun _ _ _ wr => s.size - wr.iterPos w.heap.size)
  case atStart => exact ⟨0, 0, 1, 0, rfl, rfl, rfl, rfl, by omega, .inl rfl, by omega, by omega, by omega, by omega, by simp [Hid, numT]⟩
  case round =>
    obtain ⟨p, n, sg, dg, rfl, rfl, rfl, rfl, hp, hsg, hn1, hn2, hd1, hd2, HP⟩ := hrel
    by_cases h : p < s.size
    · have hnx : ∀ ty, (Instr.next (.pointer (some ⟨w.heap.size, 0, none⟩)) true ty).run Tryd.prog (w.iter s p) = _ := fun ty => run_next_any w s p ty h
      have h1 := dec_fits s p h
      have h2 := dec_pos s p
      have HL := Lib.hid (lst_drop s p h)
      obtain ⟨r, hr⟩ : ∃ r, r = (Utf8.decode s p).1 := ⟨_, rfl⟩
      rw [← hr] at hnx
      by_cases hlow : r < 128
      · have hwb := dec_low s p h (by omega)
        rw [← hr] at hwb
        have hw : (Utf8.decode s p).2 = 1 := hwb.1
        rw [hw] at hnx
        have HB : Hid ((s[p]'h).toNat = r) := hwb.2
        clear hwb hw hr h1 h2
        have hz : ((p : Int) == 0) = true ∨ ((p : Int) == 0) = false := by cases ((p : Int) == 0) <;> simp
        by_cases hdig : 48 ≤ r ∧ r ≤ 57 ∧ ¬ (0 < dg ∧ n = 0)
        · have HG : Hid (48 ≤ (s[p]'h).toNat ∧ (s[p]'h).toNat ≤ 57 ∧ ¬ (0 < dg ∧ n = 0)) := by rw [HB.out]; exact hdig
          obtain ⟨g1, g2, g3⟩ := hdig
          have q1 : ((r : Int) == 45) = false := by rw [beq_eq_false_iff_ne]; omega
          have q2 : ¬ (r : Int) < 48 := by omega
          have q3 : ¬ (r : Int) > 57 := by omega
          have q4 : ¬ dg > 0 ∨ (dg > 0 ∧ (n == 0) = false) := by
            by_cases hd : 0 < dg
            · exact .inr ⟨hd, by rw [beq_eq_false_iff_ne]; omega⟩
            · exact .inl hd
          clear g3
          rcases hsg with rfl | rfl
          · have HX : Hid (10 * n + (r - 48) = 10 * n + 1 * (((s[p]'h).toNat : Int) - 48)) := by unfold Hid; rw [HB.out]; omega
            by_cases hfar : 10 * n + ((r : Int) - 48) < -2147483648 ∨ 2147483647 < 10 * n + ((r : Int) - 48)
            · have HF := Lib.hid (nGo_far (decide (p = 0)) n 1 dg (s[p]'h) ((lst s).drop (p + 1)) HG.out _ HX.out hfar)
              rcases hfar with hfar | hfar
              all_goals rcases hz with hz | hz
              all_goals rcases q4 with q4 | ⟨q4, q5⟩
              all_goals
                go_wp2
                go_ret2
                refine ⟨?_, below_iter _ _ _⟩
                rw [← HP.out, HL.out, HF.out]; rfl
            · have HF := Lib.hid (nGo_go (decide (p = 0)) n 1 dg (s[p]'h) ((lst s).drop (p + 1)) HG.out _ HX.out hfar)
              have f1 : ¬ 10 * n + ((r : Int) - 48) < -2147483648 := by omega
              have f2 : ¬ 10 * n + ((r : Int) - 48) > 2147483647 := by omega
              clear hfar
              rcases hz with hz | hz
              all_goals rcases q4 with q4 | ⟨q4, q5⟩
              all_goals
                go_wp2
                go_roundw
                case rel =>
                  refine ⟨p + 1, _, 1, dg + 1, rfl, rfl, rfl, rfl, by omega, .inl rfl, by omega, by omega, by omega, by omega, ?_⟩
                  unfold Hid
                  rw [← HP.out, HL.out, HF.out]; rfl
                case measure => simp; omega
          · have HX : Hid (10 * n + -((r : Int) - 48) = 10 * n + (-1) * (((s[p]'h).toNat : Int) - 48)) := by unfold Hid; rw [HB.out]; omega
            by_cases hfar : 10 * n + -((r : Int) - 48) < -2147483648 ∨ 2147483647 < 10 * n + -((r : Int) - 48)
            · have HF := Lib.hid (nGo_far (decide (p = 0)) n (-1) dg (s[p]'h) ((lst s).drop (p + 1)) HG.out _ HX.out hfar)
              rcases hfar with hfar | hfar
              all_goals rcases hz with hz | hz
              all_goals rcases q4 with q4 | ⟨q4, q5⟩
              all_goals
                go_wp2
                go_ret2
                refine ⟨?_, below_iter _ _ _⟩
                rw [← HP.out, HL.out, HF.out]; rfl
            · have HF := Lib.hid (nGo_go (decide (p = 0)) n (-1) dg (s[p]'h) ((lst s).drop (p + 1)) HG.out _ HX.out hfar)
              have f1 : ¬ 10 * n + -((r : Int) - 48) < -2147483648 := by omega
              have f2 : ¬ 10 * n + -((r : Int) - 48) > 2147483647 := by omega
              clear hfar
              rcases hz with hz | hz
              all_goals rcases q4 with q4 | ⟨q4, q5⟩
              all_goals
                go_wp2
                go_roundw
                case rel =>
                  refine ⟨p + 1, _, -1, dg + 1, rfl, by go_num, rfl, rfl, by omega, .inr rfl, by omega, by omega, by omega, by omega, ?_⟩
                  unfold Hid
                  rw [← HP.out, HL.out, HF.out]; rfl
                case measure => simp; omega
        · by_cases hmin : p = 0 ∧ r = 45
          · obtain ⟨hm1, hm2⟩ := hmin
            have hz : ((p : Int) == 0) = true := by rw [hm1]; rfl
            have q1 : ((r : Int) == 45) = true := by rw [hm2]; rfl
            have HF := Lib.hid (nGo_minus (decide (p = 0)) n sg dg (s[p]'h) ((lst s).drop (p + 1)) (by rw [hm1]; rfl) (by rw [HB.out, hm2]))
            clear hm1 hm2 hdig
            go_wp2
            go_roundw
            case rel =>
              refine ⟨p + 1, n, -1, dg, rfl, rfl, rfl, rfl, by omega, .inr rfl, by omega, by omega, by omega, by omega, ?_⟩
              unfold Hid
              rw [← HP.out, HL.out, HF.out]; rfl
            case measure => simp; omega
          · have HF : Hid (nGo (decide (p = 0)) n sg dg ((s[p]'h) :: (lst s).drop (p + 1)) = none) := by
              refine nGo_none _ _ _ _ _ _ ?_ ?_
              · rw [HB.out]; simpa using hmin
              · rw [HB.out]; omega
            have hzz : (((p : Int) == 0) = true ∧ ((r : Int) == 45) = false) ∨ ((p : Int) == 0) = false := by
              by_cases hp0 : p = 0
              · refine .inl ⟨by rw [hp0]; rfl, ?_⟩
                rw [beq_eq_false_iff_ne]; omega
              · exact .inr (by rw [beq_eq_false_iff_ne]; omega)
            have hd0 : (r : Int) < 48 ∨ (¬ (r : Int) < 48 ∧ (r : Int) > 57) ∨ (¬ (r : Int) < 48 ∧ ¬ (r : Int) > 57 ∧ dg > 0 ∧ (n == 0) = true) := by
              by_cases a : r < 48
              · exact .inl (by omega)
              · by_cases b : 57 < r
                · exact .inr (.inl ⟨by omega, by omega⟩)
                · exact .inr (.inr ⟨by omega, by omega, by omega, by rw [beq_iff_eq]; omega⟩)
            have q4 : ¬ dg > 0 ∨ (dg > 0 ∧ (n == 0) = false) ∨ (dg > 0 ∧ (n == 0) = true) := by
              by_cases hd : 0 < dg
              · refine .inr ?_
                cases (n == 0)
                · exact .inl ⟨hd, rfl⟩
                · exact .inr ⟨hd, rfl⟩
              · exact .inl hd
            clear hmin hdig hz
            rcases hzz with ⟨hz, hz2⟩ | hz
            all_goals rcases hd0 with d1 | ⟨d1, d2⟩ | ⟨d1, d2, d3, d4⟩
            all_goals try rcases q4 with q4 | ⟨q4, q5⟩ | ⟨q4, q5⟩
            all_goals try (exfalso; first | omega | (rw [d4] at q5; exact absurd q5 (by decide)))
            all_goals
              go_wp2
              go_ret2
              refine ⟨?_, below_iter _ _ _⟩
              rw [← HP.out, HL.out, HF.out]; rfl
      · have hup := dec_up s p h (by omega)
        have HF : Hid (nGo (decide (p = 0)) n sg dg ((s[p]'h) :: (lst s).drop (p + 1)) = none) := nGo_none _ _ _ _ _ _ (by omega) (by omega)
        have q1 : ((r : Int) == 45) = false := by rw [beq_eq_false_iff_ne]; omega
        have q2 : ¬ (r : Int) < 48 := by omega
        have q3 : (r : Int) > 57 := by omega
        have hz : ((p : Int) == 0) = true ∨ ((p : Int) == 0) = false := by cases ((p : Int) == 0) <;> simp
        have q4 : ¬ dg > 0 ∨ (dg > 0 ∧ (n == 0) = false) ∨ (dg > 0 ∧ (n == 0) = true) := by
          by_cases hd : 0 < dg
          · refine .inr ?_
            cases (n == 0)
            · exact .inl ⟨hd, rfl⟩
            · exact .inr ⟨hd, rfl⟩
          · exact .inl hd
        have HR := Lib.hid hr
        clear hup hlow hr h1 h2
        rcases hz with hz | hz
        all_goals rcases q4 with q4 | ⟨q4, q5⟩ | ⟨q4, q5⟩
        all_goals
          go_wp2
          go_ret2
          refine ⟨?_, below_iter _ _ _⟩
          rw [← HP.out, HL.out, HF.out]; rfl
    · have hnx : ∀ ty, (Instr.next (.pointer (some ⟨w.heap.size, 0, none⟩)) true ty).run Tryd.prog (w.iter s p) = _ := fun ty => run_next_end w s p ty h
      have hd : (lst s).drop p = [] := List.drop_eq_nil_of_le (by unfold lst; rw [← size_len]; omega)
      have hv : numT s = if dg = 0 ∨ (sg < 0 ∧ n = 0) then none else some n := by rw [← HP.out, hd, nGo]
      by_cases hno : dg = 0 ∨ (sg < 0 ∧ n = 0)
      · rw [if_pos hno] at hv
        have HV := Lib.hid hv; clear hv hd
        have hc : (dg == 0) = true ∨ ((dg == 0) = false ∧ sg < 0 ∧ (n == 0) = true) := by
          by_cases a : dg = 0
          · exact .inl (by rw [a]; rfl)
          · exact .inr ⟨by rw [beq_eq_false_iff_ne]; omega, by omega, by rw [beq_iff_eq]; omega⟩
        clear hno
        rcases hc with c1 | ⟨c1, c2, c3⟩
        all_goals
          go_wp2
          go_ret2
          exact ⟨by rw [HV.out]; rfl, below_iter _ _ _⟩
      · rw [if_neg hno] at hv
        have HV := Lib.hid hv; clear hv hd
        have c1 : (dg == 0) = false := by rw [beq_eq_false_iff_ne]; omega
        have hc : ¬ sg < 0 ∨ (sg < 0 ∧ (n == 0) = false) := by
          by_cases a : sg < 0
          · exact .inr ⟨a, by rw [beq_eq_false_iff_ne]; omega⟩
          · exact .inl a
        clear hno
        rcases hc with c2 | ⟨c2, c3⟩
        all_goals
          go_wp2
          go_ret2
          exact ⟨by rw [HV.out]; rfl, below_iter _ _ _⟩
end Go.Proofs.YthidkkjhpdcenaaDoor
