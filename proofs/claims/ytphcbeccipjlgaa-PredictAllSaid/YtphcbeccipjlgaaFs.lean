/- WALKS of the laws PredictLast, PredictTable. -/
import Derived.Test.YtphcbeccipjlgaaFr
namespace Go.Proofs.Ytphcbeccipjlgaa
set_option maxRecDepth 100000
open Go.RowKit Go.Maps
set_option linter.unusedVariables false
set_option linter.unusedSimpArgs false

theorem short_any (A : Option Addr) (l : List UInt8) (cap k : Nat) (w : World) (hk : k ≤ 1000) (hc : l.length ≤ cap) (hc2 : cap ≤ maxLen) :
    Calls Try.prog 13 #[.slice A l.length cap, .int .i64 k] w fun e w' => e = .returned (.slice A (l.take k).length cap) ∧ w = w' := by
  unfold maxLen at hc2
  rw [List.length_take]
  by_cases h : k < l.length
  · go_enter Try.func13, Try.ntmps13
    go_wp2
    go_ret
    exact ⟨by rw [Nat.min_eq_left (by omega)]; rfl, rfl⟩
  · go_enter Try.func13, Try.ntmps13
    go_wp2
    go_ret
    exact ⟨by rw [Nat.min_eq_right (by omega)]; rfl, rfl⟩
theorem short_n (A : Option Addr) (l : List UInt8) (n cap k : Nat) (w : World) (hn : l.length = n) (hk : k ≤ 1000) (hc : n ≤ cap) (hc2 : cap ≤ maxLen) (X : Nat) (hX : (l.take k).length = X) (K : Int) (hK : K = (k : Int)) :
    Calls Try.prog 13 #[.slice A n cap, .int .i64 K] w fun e w' => e = .returned (.slice A X cap) ∧ w = w' := by
  subst hn hX hK
  exact short_any A l cap k w hk hc hc2
theorem nxt_lst {b : Kd} (hk : b.k = 1) (p : List UInt8) : nxt b p = lst p := by
  by_cases h : 0 < p.length
  · exact nxt_last hk h
  · obtain rfl := List.eq_nil_of_length_eq_zero (by omega : p.length = 0)
    exact nxt_first hk
theorem chN_last {b : Kd} (hk : b.k = 1) : ∀ n p, ∀ x ∈ chN b n p, x = lst p
  | 0, p, x, h => by simp [chN] at h
  | n + 1, p, x, h => by
    unfold chN at h
    rcases List.mem_cons.1 h with e | e
    · rw [e, nxt_lst hk]
    · rw [chN_last hk n _ x e, lst_push, nxt_lst hk]
theorem chN_table {b : Kd} (hk : b.k = 3) : ∀ n p i, i < n → (chN b n p).getD i 0 = b.tb.getD ((p.length + i) % b.tb.length) 0
  | 0, p, i, h => by omega
  | n + 1, p, 0, h => by
    rw [chN, List.getD_cons_zero, nxt_drawn hk, drw, Nat.add_zero]
  | n + 1, p, i + 1, h => by
    rw [chN, List.getD_cons_succ, chN_table hk n _ i (by omega), List.length_append, List.length_singleton]
    congr 2; omega
set_option maxHeartbeats 4000000 in
theorem last_law (A0 : Option Addr) (l0 : List UInt8) (cap0 : Nat) (n : Int) (w : World) (h0 : RB w w.heap.size A0 l0) (k0 : l0.length ≤ cap0) (m0 : cap0 ≤ maxLen) (n0 : -9223372036854775808 ≤ n) (n1 : n ≤ 9223372036854775807) :
    Calls Try.prog 5 #[.slice A0 l0.length cap0, .int .i64 n] w fun e w' => e = .returned (.bool true) ∧ Below w.heap.size w w' := by
  have HG := Lib.hid (begun18_any w)
  obtain ⟨p, hp⟩ : ∃ p, l0.take 60 = p := ⟨_, rfl⟩
  obtain ⟨L, hL⟩ : ∃ L, p.length = L := ⟨_, rfl⟩
  obtain ⟨hL60, hLc⟩ : L ≤ 60 ∧ L ≤ cap0 := by rw [← hp, List.length_take] at hL; omega
  have HS := Lib.hid (fun W => short_n A0 l0 l0.length cap0 60 W rfl (by omega) k0 m0 L (by rw [hp, hL]) 60 rfl)
  have HP : Hid (PM w A0 p L cap0) := ⟨hL, hLc, m0, by rw [← hp]; exact h0.take 60⟩
  obtain ⟨n00, hn00⟩ : ∃ n00, l0.length = n00 := ⟨_, rfl⟩
  rw [hn00] at HS ⊢
  clear h0 k0 m0 hp hn00 n0 n1
  go_enter Try.func5, Try.ntmps5
  go_wp2_with fail
  (with_reducible refine HG.out.mono ?_)
  rintro e w2 ⟨rfl, hb2⟩
  have HB2 := Lib.hid hb2
  have HP2 := Lib.hid (HP.out.then_ hb2)
  have HL := Lib.hid hL
  clear hb2 HP HG hL
  go_wp2_with fail
  (with_reducible refine (HS.out _).mono ?_)
  rintro e w3 ⟨rfl, rfl⟩
  clear HS
  by_cases g1 : n < 0
  · go_wp2_with fail
    go_ret
    exact ⟨rfl, HB2.out⟩
  by_cases g2 : 100 < n
  · go_wp2_with fail
    go_ret
    exact ⟨rfl, HB2.out⟩
  obtain ⟨N, rfl⟩ : ∃ N : Nat, n = N := ⟨n.toNat, by omega⟩
  have hN : N ≤ 100 := by omega
  have HC := Lib.hid (chain_at kL 1 0 rfl rfl none 0 0 A0 p L cap0 N w2 (km_nil w2 kL (.inl ⟨rfl, rfl, rfl⟩) rfl) HP2.out (by omega) N (by omega) _ rfl)
  go_upto_if 22 with fail
  go_cut [6] from 23 to 28 (fun s6 wx => s6 = .int .u8 ((lst p).toNat : Int) ∧ w2 = wx)
  case first =>
    by_cases hL0 : L = 0
    · subst hL0
      have hl : lst p = 0 := by
        have := HL.out
        obtain rfl := List.eq_nil_of_length_eq_zero this
        rfl
      have HLL := Lib.hid hl
      clear hl
      go_wp2_with fail
      go_meet
      exact ⟨by rw [HLL.out]; rfl, rfl⟩
    · have hLz : (0 : Int) < (L : Int) := by omega
      have hLn : 0 < L := by omega
      obtain ⟨l1, hl1⟩ : ∃ l1 : Nat, (L : Int) - 1 = l1 := ⟨L - 1, by omega⟩
      obtain ⟨pb, po, rfl, hpb, -⟩ := HP2.out.t (by rw [HL.out]; omega)
      have cx := HP2.out.t.cell_ l1 (by rw [HL.out]; omega)
      have hl2 : p.getD l1 0 = lst p := by unfold lst; rw [HL.out, show L - 1 = l1 by omega]
      rw [hl2] at cx
      have hl1n : l1 < L := by omega
      obtain ⟨y, hy⟩ : ∃ y : Int, ((lst p).toNat : Int) = y := ⟨_, rfl⟩
      rw [hy] at cx
      have HYY := Lib.hid hy
      clear hl2 hy
      go_wp2_with fail
      go_meet
      exact ⟨by rw [HYY.out], rfl⟩
  case rest =>
    obtain ⟨rfl, rfl⟩ := hcut
    go_wp2_with fail
    (with_reducible refine HC.out.mono ?_)
    rintro e w4 ⟨⟨A', c', rfl, hNc, hc', hr'⟩, hb4⟩
    have HB4 := Lib.hid (HB2.out.trans (hb4.mono HB2.out.size))
    have HR := Lib.hid hr'
    obtain ⟨y, hy⟩ : ∃ y : Int, ((lst p).toNat : Int) = y := ⟨_, rfl⟩
    have HY := Lib.hid hy
    clear hb4 hr' HC hy
    go_wp2_with fail
    go_loopw [8] (fun v wr => ∃ i : Nat, v = .int .i64 i ∧ i ≤ N ∧ w4 = wr) (fun v _ => N - (intOf v).toNat)
    case atStart => exact ⟨0, rfl, by omega, rfl⟩
    case round =>
      obtain ⟨i, rfl, hi, rfl⟩ := hrel
      by_cases hlt : i < N
      · have hltz : (i : Int) < (N : Int) := by omega
        have hlen : (chN kL N p).length = N := chN_len _ _ _
        obtain ⟨cb, co, rfl, hcb, -⟩ := HR.out (by rw [hlen]; omega)
        have cx := HR.out.cell_ i (by rw [hlen]; exact hlt)
        have hx : (chN kL N p).getD i 0 = lst p := chN_last (b := kL) rfl N p _ (by
          rw [List.getD, List.getElem?_eq_getElem (by rw [hlen]; exact hlt)]
          exact List.getElem_mem _)
        rw [hx] at cx
        clear hlen hx
        go_wp2_with fail
        exact ⟨⟨i + 1, by go_num, by omega, trivial⟩, by simp [intOf]; omega⟩
      · obtain rfl : i = N := by omega
        have hltz : ¬ (i : Int) < (i : Int) := by omega
        go_wp2_with fail
        go_ret
        exact ⟨by simp, HB4.out⟩
end Go.Proofs.Ytphcbeccipjlgaa
