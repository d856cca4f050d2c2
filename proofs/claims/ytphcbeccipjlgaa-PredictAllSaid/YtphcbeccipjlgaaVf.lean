/- THE REFERENCE: Rank. -/
import Derived.Test.YtphcbeccipjlgaaVe
import Derived.Deep.CutBlock
import Derived.Deep.CutRange
namespace Go.Proofs.Ytphcbeccipjlgaa
set_option maxRecDepth 100000
open Go.RowKit Go.Maps
set_option linter.unusedVariables false
set_option linter.unusedSimpArgs false

/-- the best of those below v that are not taken -/
def Bst (S : Nat → Int) (t : Nat → Bool) (bI : Int) (v : Nat) : Prop :=
  (bI = -1 ∧ ∀ x, x < v → t x = true) ∨ (∃ n : Nat, bI = n ∧ n < v ∧ t n = false ∧ ∀ x, x < v → t x = false → S x ≤ S n ∧ (x < n → S x < S n))
theorem bst_zero (S : Nat → Int) (t : Nat → Bool) : Bst S t (-1) 0 := .inl ⟨rfl, fun x h => by omega⟩
theorem bst_skip {S : Nat → Int} {t : Nat → Bool} {bI : Int} {v : Nat} (h : Bst S t bI v) (ht : t v = true) : Bst S t bI (v + 1) := by
  rcases h with ⟨h1, h2⟩ | ⟨n, h1, h2, h3, h4⟩
  · refine .inl ⟨h1, fun x hx => ?_⟩
    by_cases e : x = v
    · rw [e]; exact ht
    · exact h2 x (by omega)
  · refine .inr ⟨n, h1, by omega, h3, fun x hx hf => ?_⟩
    by_cases e : x = v
    · rw [e, ht] at hf; cases hf
    · exact h4 x (by omega) hf
theorem bst_first {S : Nat → Int} {t : Nat → Bool} {v : Nat} (h : Bst S t (-1) v) (ht : t v = false) : Bst S t v (v + 1) := by
  rcases h with ⟨h1, h2⟩ | ⟨n, h1, h2, h3, h4⟩
  · refine .inr ⟨v, rfl, by omega, ht, fun x hx hf => ?_⟩
    by_cases e : x = v
    · rw [e]; omega
    · rw [h2 x (by omega)] at hf; cases hf
  · omega
theorem bst_next {S : Nat → Int} {t : Nat → Bool} {n v : Nat} (h : Bst S t n v) (ht : t v = false) : Bst S t (if decide (S n < S v) = true then (v : Int) else (n : Int)) (v + 1) := by
  rcases h with ⟨h1, h2⟩ | ⟨m, h1, h2, h3, h4⟩
  · omega
  · obtain rfl : n = m := by omega
    by_cases c : S n < S v
    · rw [if_pos (decide_eq_true c)]
      refine .inr ⟨v, rfl, by omega, ht, fun x hx hf => ?_⟩
      by_cases e : x = v
      · rw [e]; omega
      · have := h4 x (by omega) hf; omega
    · rw [if_neg (by simpa using c)]
      refine .inr ⟨n, rfl, by omega, h3, fun x hx hf => ?_⟩
      by_cases e : x = v
      · rw [e]; omega
      · exact h4 x (by omega) hf
theorem bst_end {S : Nat → Int} {j : Nat} {bI : Int} (hj : j < 256) (h : Bst S (sn (rk S) j) bI 256) : bI = (((rk S).getD j 0).toNat : Int) := by
  have hy := sn_fresh S j hj
  have hy2 : ((rk S).getD j 0).toNat < 256 := UInt8.toNat_lt _
  rcases h with ⟨h1, h2⟩ | ⟨n, h1, h2, h3, h4⟩
  · rw [h2 _ hy2] at hy; cases hy
  · have h5 := h4 _ hy2 hy
    have hx := rk_mem S (UInt8.ofNat n)
    have en : (UInt8.ofNat n).toNat = n := by rw [UInt8.toNat_ofNat']; omega
    obtain ⟨i, hi, e⟩ := List.getElem_of_mem hx
    have hi2 : i < 256 := by rw [rk_len] at hi; exact hi
    have e2 : (rk S).getD i 0 = UInt8.ofNat n := by rw [List.getD, List.getElem?_eq_getElem hi]; exact e
    rcases Nat.lt_trichotomy i j with c | c | c
    · have : sn (rk S) j n = true := (sn_mem _ _ _ (by rw [rk_len]; omega)).2 ⟨i, c, by rw [e2, en]⟩
      rw [this] at h3; cases h3
    · rw [← c, e2, en]; exact h1
    · have := rk_get_ah S j i c hi2
      rw [e2] at this
      unfold ah at this
      rw [en] at this
      omega
def slLen : Value → Nat
  | .slice _ n _ => n
  | _ => 0
theorem wpList_load_n_on {w : World} {ops : Array Oper} {rest : List Oper} {op : Oper} {a : Act} {Q : Exit → Act → World → Prop} (hw : Region.wanted op (yielded ops a.tmps) = true) (x : Operand) (ho : op.op = .load 43 x)
    (b : Nat) (hx : a.eval x = .pointer (some ⟨b, 0, none⟩)) (S : Nat → Int) (h : GN w b S)
    (hk : wpList Try.prog ops Q rest (a.put op.dst (.agg (aN S))) w) : wpList Try.prog ops Q (op :: rest) a w := by
  refine wpList_step fun K hK => ?_
  rw [if_pos hw]
  have hrun := run_loadVar_mid (P := Try.prog) w b 0 43 (aL S) _ h.range Try.underlying43 rfl (by rw [arr_size, aL_len])
  unfold Oper.wp execOp
  simp only [ho, hx, Instr.loadAt, Instr.sureAddr, Sem.run_bind, Sem.run_pure, Result.andThen_ok, hrun]
  exact hK _ _ hk
theorem wp_load_n {w : World} {op : Oper} {a : Act} {K : Act → World → Prop} {Q : Exit → Act → World → Prop} (x : Operand) (ho : op.op = .load 43 x)
    (b : Nat) (hx : a.eval x = .pointer (some ⟨b, 0, none⟩)) (S : Nat → Int) (h : GN w b S) (hk : K (a.put op.dst (.agg (aN S))) w) : op.wp Try.prog a w K Q := by
  have hrun := run_loadVar_mid (P := Try.prog) w b 0 43 (aL S) _ h.range Try.underlying43 rfl (by rw [arr_size, aL_len])
  unfold Oper.wp execOp
  simp only [ho, hx, Instr.loadAt, Instr.sureAddr, Sem.run_bind, Sem.run_pure, Result.andThen_ok, hrun]
  exact hk
set_option maxHeartbeats 1000000 in
theorem rrank_none (z o : Int) (A : Option Addr) (n c : Nat) (P : Option Addr) (L pc : Nat) (k : Int) (w : World) (hn : n ≤ maxLen) (r : Bool) (hmay : mayB z o n = r) (h : r = false ∨ k < 1) :
    Calls Try.prog 18 #[.agg #[.int .i64 z, .int .i64 o, .slice A n c], .slice P L pc, .int .i64 k] w fun e w' => e = .returned (.slice none 0 0) ∧ Below w.heap.size w w' := by
  obtain ⟨w2, hw2⟩ : ∃ w2, w.alloc (.cells #[.int .i64 z, .int .i64 o, .slice A n c] 24) = w2 := ⟨_, rfl⟩
  have b2 : Below w.heap.size w w2 := by rw [← hw2]; exact (Below.refl _ _).alloc (Nat.le_refl _) _
  have HM := Lib.hid (mayBy_at z o A n c w2 hn r hmay)
  rw [← hw2] at HM
  have HW := Lib.hid hw2
  have B2 := Lib.hid b2
  clear hw2 b2 hmay
  cases r with
  | false =>
    go_enter Try.func18, Try.ntmps18
    go_wp2_with fail
    (with_reducible refine HM.out.mono ?_)
    rintro e w5 ⟨rfl, hb5⟩
    rw [HW.out] at hb5
    have HB5 := Lib.hid (B2.out.trans (hb5.mono B2.out.size))
    clear hb5
    go_wp2_with fail
    go_ret
    exact ⟨rfl, HB5.out⟩
  | true =>
    have hk : k < 1 := by rcases h with h | h; cases h; exact h
    go_enter Try.func18, Try.ntmps18
    go_wp2_with fail
    (with_reducible refine HM.out.mono ?_)
    rintro e w5 ⟨rfl, hb5⟩
    rw [HW.out] at hb5
    have HB5 := Lib.hid (B2.out.trans (hb5.mono B2.out.size))
    clear hb5
    go_wp2_with fail
    go_ret
    exact ⟨rfl, HB5.out⟩
set_option maxHeartbeats 4000000 in
theorem rrank_any (b : Kd) (z o : Int) (hz : z = (b.k : Int)) (ho : o = (b.o : Int)) (A : Option Addr) (n c : Nat) (P : Option Addr) (p : List UInt8) (L pc : Nat) (k : Int) (w : World) (hk : KM w b A n c) (hp : PM w P p L pc) (hl : L ≤ 2000) (hk1 : 1 ≤ k) (m : Nat) (hm : min k 256 = (m : Int)) :
    Calls Try.prog 18 #[.agg #[.int .i64 z, .int .i64 o, .slice A n c], .slice P L pc, .int .i64 k] w fun e w' => (∃ v, e = .returned v ∧ OB w' w.heap.size v ((rk (sc b p)).take m)) ∧ Below w.heap.size w w' := by
  have hzn := zeroN
  have hzb := zeroB
  obtain ⟨w2, hw2⟩ : ∃ w2, w.alloc (.cells #[.int .i64 z, .int .i64 o, .slice A n c] 24) = w2 := ⟨_, rfl⟩
  have b2 : Below w.heap.size w w2 := by rw [← hw2]; exact (Below.refl _ _).alloc (Nat.le_refl _) _
  have s2 : w2.heap.size = w.heap.size + 1 := by rw [← hw2]; simp
  have hbox : w2.heap[w.heap.size]? = some (.cells #[.int .i64 z, .int .i64 o, .slice A n c] 24 (0, 0)) := by
    rw [← hw2]; exact heap_alloc_last w _
  have hmay : mayB z o n = true := by rw [hz, ho]; exact hk.may
  have HM := Lib.hid (mayBy_at z o A n c w2 hk.nm true hmay)
  rw [← hw2] at HM
  have HW := Lib.hid hw2
  have B2 := Lib.hid b2; have S2 := Lib.hid s2; have BX := Lib.hid (box3 hbox)
  have HK := Lib.hid (hk.then_ b2)
  have HP := Lib.hid (hp.then_ b2)
  have HZ := Lib.hid hz; have HO := Lib.hid ho
  have HMm := Lib.hid hm
  obtain ⟨S, hS⟩ : ∃ S, sc b p = S := ⟨_, rfl⟩
  rw [hS]
  have HSS := Lib.hid hS
  have hk1n : ¬ k < 1 := by omega
  clear hw2 b2 s2 hbox hmay hk hp hz ho hm hS
  go_enter Try.func18, Try.ntmps18
  go_wp2_with fail
  (with_reducible refine HM.out.mono ?_)
  rintro e w3 ⟨rfl, hb3⟩
  rw [HW.out] at hb3
  have HB3 := Lib.hid (B2.out.trans (hb3.mono B2.out.size))
  have X3 : Hid (Below (w.heap.size + 1) w2 w3) := hb3.mono (by rw [S2.out]; exact Nat.le_refl _)
  have HK3 := Lib.hid (HK.out.then_ hb3)
  have HP3 := Lib.hid (HP.out.then_ hb3)
  have c30 := (BX.out w3 X3.out).1
  have c31 := (BX.out w3 X3.out).2.1
  have c32 := (BX.out w3 X3.out).2.2
  have hwt := refw_any b A n c P p L pc w3 HK3.out.ok HP3.out.len HP3.out.nc HP3.out.cm HP3.out.t hl
  unfold byV byA at hwt
  rw [← HZ.out, ← HO.out] at hwt
  have HE := Lib.hid hwt
  clear hb3 HM HK HP hwt HW
  go_wp2_with fail
  (with_reducible refine HE.out.mono ?_)
  rintro e w5 ⟨rfl, hb5⟩
  have HB5 := Lib.hid (HB3.out.trans (hb5.mono HB3.out.size))
  have X5 : Hid (Below (w.heap.size + 1) w2 w5) := X3.out.trans (hb5.mono (by have := X3.out.size; have := S2.out; omega))
  have HK5 := Lib.hid (HK3.out.then_ hb5)
  have HP5 := Lib.hid (HP3.out.then_ hb5)
  have g6 : GN (w5.alloc (.cells (aN z256) 43)) w5.heap.size z256 := GN.new w5 z256
  clear hb5 HE c30 c31 c32 HB3 X3 HK3 HP3
  go_upto_if 26 with (with_reducible refine wpList_store_n rfl (.tmp 7) (.tmp 23) rfl w5.heap.size (by with_unfolding_all rfl) z256 (wB b p) g6 (by with_unfolding_all rfl) ?_; intro w7 G7 S7 R7)
  obtain ⟨s, hs⟩ : ∃ s, w5.heap.size = s := ⟨_, rfl⟩
  have s7 : w7.heap.size = s + 1 := by rw [S7, ← hs]; simp
  have hsw : w.heap.size + 1 ≤ s := by rw [← hs]; have := X5.out.size; have := S2.out; omega
  have b57 : Below s w5 w7 := by
    rw [← hs]; exact ((Below.refl _ _).alloc (Nat.le_refl _) (.cells (aN z256) 43)).grown R7 (by simp) (fun k e => by cases e; exact Nat.le_refl _)
  have HB7 := Lib.hid (HB5.out.trans (b57.mono (by omega)))
  have X7 : Hid (Below (w.heap.size + 1) w2 w7) := X5.out.trans (b57.mono hsw)
  have b57' : Below w5.heap.size w5 w7 := by rw [hs]; exact b57
  have HK7 := Lib.hid (HK5.out.then_ b57')
  have HP7 := Lib.hid (HP5.out.then_ b57')
  rw [hs] at G7 ⊢
  have HG7 := Lib.hid G7
  clear hs S7 R7 b57 b57' g6 G7 HB5 X5 HK5 HP5 hzn
  obtain ⟨ld, hld⟩ : ∃ r, ldI p = r := ⟨_, rfl⟩
  have HLD := Lib.hid hld
  obtain ⟨dd, hdd⟩ : ∃ r, ddI b p = r := ⟨_, rfl⟩
  have HDD := Lib.hid hdd
  clear hld hdd
  go_cut [8] from 27 to 33 (fun s8 wx => s8 = .int .i64 ld ∧ w7 = wx)
  case first =>
    by_cases hL0 : L = 0
    · subst hL0
      have hl0 : ld = 0 := by
        rw [← HLD.out]; unfold ldI; rw [lst_nil (by rw [HP7.out.len]; omega)]; rfl
      subst hl0
      go_wp2_with fail
      go_meet
      exact ⟨rfl, rfl⟩
    · have hLz : (0 : Int) < (L : Int) := by omega
      have hLn : 0 < L := by omega
      obtain ⟨l1, hl1⟩ : ∃ l1 : Nat, (L : Int) - 1 = l1 := ⟨L - 1, by omega⟩
      obtain ⟨pb, po, rfl, hpb, -⟩ := HP7.out.t (by rw [HP7.out.len]; omega)
      have cx := HP7.out.t.cell_ l1 (by rw [HP7.out.len]; omega)
      have hl2 : p.getD l1 0 = lst p := by unfold lst; rw [HP7.out.len, show L - 1 = l1 by omega]
      have hl3 : ((lst p).toNat : Int) = ld := HLD.out
      rw [hl2, hl3] at cx
      have hl1n : l1 < L := by omega
      have hldr : 0 ≤ ld ∧ ld ≤ 255 := by rw [← hl3]; have := (lst p).toNat_lt; omega
      clear hl2 hl3
      go_wp2_with fail
      go_meet
      exact ⟨by first | rfl | (congr 1; omega), rfl⟩
  case rest =>
  obtain ⟨rfl, rfl⟩ := hcut
  have c70 := (BX.out w7 X7.out).1
  have c72 := (BX.out w7 X7.out).2.2
  go_upto_if 36 with fail
  go_cut [9] from 37 to 47 (fun s9 wx => s9 = .int .i64 dd ∧ Hid (Below w7.heap.size w7 wx))
  case first =>
    by_cases h3 : b.k = 3
    · have hkz : (z == 3) = true := by rw [HZ.out, h3]; rfl
      have hkz2 : z = 3 := by rw [HZ.out, h3]; rfl
      have htb : 1 ≤ n ∧ n ≤ 1000 := by have := HK7.out.ok; unfold Kd.ok at this; have h0 := HK7.out.len; omega
      obtain ⟨ta, tq, rfl, hta, -⟩ := HK7.out.t (by rw [HK7.out.len]; omega)
      obtain ⟨r, hr⟩ : ∃ r : Nat, (L : Int).tmod (n : Int) = r := ⟨L % n, by rw [Int.tmod_eq_emod_of_nonneg (by omega)]; rfl⟩
      have hrn : r = L % n := by rw [Int.tmod_eq_emod_of_nonneg (by omega)] at hr; exact_mod_cast hr.symm
      have hrlt : r < n := by rw [hrn]; exact Nat.mod_lt _ (by omega)
      have cx := HK7.out.t.cell_ r (by rw [HK7.out.len]; exact hrlt)
      have hl2 : b.tb.getD r 0 = drw b p := by unfold drw; rw [HK7.out.len, HP7.out.len, hrn]
      have hl3 : ((drw b p).toNat : Int) = dd := by rw [← HDD.out]; unfold ddI; rw [if_pos h3]
      rw [hl2, hl3] at cx
      have hddr : 0 ≤ dd ∧ dd ≤ 255 := by rw [← hl3]; have := (drw b p).toNat_lt; omega
      have hn0 : ((n : Int) == 0) = false := by simp; omega
      have hn1 : ¬ (n : Int) = 0 := by omega
      have hlp : (L : Int) ≤ 2000 := by omega
      have HBd : Hid (Below w7.heap.size w7 w7.drew) := (Below.refl _ _).drew
      clear hl2 hl3 hrn h3
      go_wp2_with fail
      go_big_region
      all_goals go_wp2_with fail
      all_goals go_meet
      all_goals exact ⟨by first | rfl | (congr 1; omega), HBd⟩
    · have hkz : (z == 3) = false := by rw [HZ.out]; simp; omega
      have hd1 : dd = -1 := by rw [← HDD.out]; unfold ddI; rw [if_neg h3]
      subst hd1
      have HBd : Hid (Below w7.heap.size w7 w7) := Below.refl _ _
      clear h3
      go_wp2_with fail
      go_meet
      exact ⟨rfl, HBd⟩
  case rest =>
  obtain ⟨rfl, HB78⟩ := hcut
  obtain ⟨w8, hw8⟩ : ∃ w8, wc = w8 := ⟨_, rfl⟩
  rw [hw8] at HB78 ⊢
  clear hw8 c70 c72
  have HG8 := Lib.hid (HG7.out.then_ HB78.out)
  have HB8 := Lib.hid (HB7.out.trans (HB78.out.mono (by omega)))
  have hs8 : s < w8.heap.size := HG8.out.lt
  clear HB7 HG7 X7 HK7 HP7 HB78 s7
  go_wp2_with fail
  obtain ⟨q, hq⟩ : ∃ q, w8.heap.size = q := ⟨_, rfl⟩
  obtain ⟨w9, hw9⟩ : ∃ w9, w8.alloc (.cells (bN f256) 35) = w9 := ⟨_, rfl⟩
  have G9 : Hid (GB w9 q (sn (rk S) 0)) := by rw [sn_zero, ← hq, ← hw9]; exact GB.new w8 f256
  have HG9 : Hid (GN w9 s (wB b p)) := by rw [← hw9]; exact HG8.out.alloc _
  have HB9 : Hid (Below w.heap.size w w9) := by rw [← hw9]; exact HB8.out.alloc HB8.out.size _
  have hsq : s < q := by rw [← hq]; exact hs8
  have hs9 : w9.heap.size = q + 1 := by rw [← hw9, ← hq]; simp
  have hwq : w.heap.size ≤ q := by rw [← hq]; exact HB8.out.size
  rw [hw9, hq]
  have O9 : Hid (OB w9 (q + 1) (.slice none 0 0) ((rk S).take 0)) := by rw [List.take_zero]; exact OB.nil _ _
  have S9 := Lib.hid hs9
  clear hq hw9 HG8 HB8 hs8 hzb hs9
  go_loopw [11] (fun s11 wr => ∃ (j : Nat) (v : Value), s11 = v ∧ j ≤ m ∧ Hid (OB wr (q + 1) v ((rk S).take j)) ∧ Hid (GB wr q (sn (rk S) j)) ∧ Hid (Below q w9 wr)) (fun v _ => 256 - slLen v)
  case atStart => exact ⟨0, _, rfl, Nat.zero_le _, O9, G9, Below.refl _ _⟩
  case round =>
    clear O9 G9
    obtain ⟨j, v, rfl, hj, HO1, HGB, HBq⟩ := hrel
    have hm256 : m ≤ 256 := by have := HMm.out; omega
    obtain ⟨A9, c9, rfl, hc9, hm9, hr9⟩ := HO1.out.form_n j (by rw [List.length_take, rk_len]; omega)
    obtain ⟨w10, hw10⟩ : ∃ w10, wr = w10 := ⟨_, rfl⟩
    rw [hw10] at HO1 HGB HBq ⊢
    clear hr9 hw10
    have hz10 : Hid (q + 1 ≤ w10.heap.size) := by unfold Hid; rw [← S9.out]; exact HBq.out.size
    by_cases hlt : j < m
    · have hjk : (j : Int) < k := by have := HMm.out; omega
      have hj256 : (j : Int) < 256 := by omega
      have hj2 : j < 256 := by omega
      have HG10 : Hid (GN w10 s (wB b p)) := HG9.out.below HBq.out hsq
      go_wp2_with fail
      go_loopw [12, 13] (fun s12 s13 wr => ∃ (bI : Int) (x : Nat), s12 = .int .i64 bI ∧ s13 = .int .i64 x ∧ x ≤ 256 ∧ Hid (Bst S (sn (rk S) j) bI x) ∧ Hid (Below w10.heap.size w10 wr)) (fun _ v _ => 256 - (intOf v).toNat)
      case atStart => exact ⟨-1, 0, rfl, rfl, by omega, bst_zero _ _, Below.refl _ _⟩
      case round =>
        obtain ⟨bI, x, rfl, rfl, hx, HBS, HB10⟩ := hrel
        have GBr := HGB.out.then_ HB10.out
        have GNr := HG10.out.then_ HB10.out
        by_cases hxl : x < 256
        · have hxz : (x : Int) < 256 := by omega
          have ct := GBr.cell x hxl
          obtain ⟨tv, htv⟩ : ∃ tv, sn (rk S) j x = tv := ⟨_, rfl⟩
          rw [htv] at ct
          cases tv with
          | true =>
            have HB2 : Hid (Bst S (sn (rk S) j) bI (x + 1)) := bst_skip HBS.out htv
            clear HBS htv GBr GNr
            go_wp2_with fail
            exact ⟨⟨bI, x + 1, rfl, by go_num, by omega, HB2, HB10⟩, by simp [intOf]; omega⟩
          | false =>
            by_cases hb0 : bI < 0
            · obtain rfl : bI = -1 := by rcases HBS.out with ⟨h1, _⟩ | ⟨n, h1, _⟩ <;> omega
              have HB2 : Hid (Bst S (sn (rk S) j) x (x + 1)) := bst_first HBS.out htv
              clear HBS htv GBr GNr
              go_wp2_with fail
              exact ⟨⟨x, x + 1, rfl, by go_num, by omega, HB2, HB10⟩, by simp [intOf]; omega⟩
            · obtain ⟨y, rfl⟩ : ∃ y : Nat, bI = y := ⟨bI.toNat, by omega⟩
              have hyx : y < x := by rcases HBS.out with ⟨h1, _⟩ | ⟨n, h1, h2, _⟩ <;> omega
              have hnx : Hid (Bst S (sn (rk S) j) (if decide (S y < S x) = true then (x : Int) else (y : Int)) (x + 1)) := bst_next HBS.out htv
              have hah := ahead_any b p x y wr hxl hyx
              rw [HSS.out, HLD.out, HDD.out] at hah
              obtain ⟨r, hr⟩ : ∃ r, decide (S y < S x) = r := ⟨_, rfl⟩
              rw [hr] at hah hnx
              have HA := Lib.hid hah
              clear HBS htv GBr hah hr hyx
              cases r with
              | true =>
                go_wp2_with (first
                  | (refine wpList_load_n_on (by rfl) (.tmp 7) rfl s (by with_unfolding_all rfl) (wB b p) GNr ?_)
                  | (refine wp_load_n (.tmp 7) rfl s (by with_unfolding_all rfl) (wB b p) GNr ?_)
                  | (go_at_call 28; with_reducible refine HA.out.mono ?_; rintro e w12 ⟨rfl, hb12⟩; have HB12 := Lib.hid (HB10.out.trans (hb12.mono HB10.out.size)); clear hb12))
                exact ⟨⟨x, x + 1, rfl, by go_num, by omega, hnx, HB12⟩, by simp [intOf]; omega⟩
              | false =>
                go_wp2_with (first
                  | (refine wpList_load_n_on (by rfl) (.tmp 7) rfl s (by with_unfolding_all rfl) (wB b p) GNr ?_)
                  | (refine wp_load_n (.tmp 7) rfl s (by with_unfolding_all rfl) (wB b p) GNr ?_)
                  | (go_at_call 28; with_reducible refine HA.out.mono ?_; rintro e w12 ⟨rfl, hb12⟩; have HB12 := Lib.hid (HB10.out.trans (hb12.mono HB10.out.size)); clear hb12))
                exact ⟨⟨y, x + 1, rfl, by go_num, by omega, hnx, HB12⟩, by simp [intOf]; omega⟩
        · obtain rfl : x = 256 := by omega
          have hbe := bst_end hj2 HBS.out
          obtain ⟨V, hV⟩ : ∃ V, ((rk S).getD j 0).toNat = V := ⟨_, rfl⟩
          have hV2 : V < 256 := by rw [← hV]; exact UInt8.toNat_lt _
          rw [hV] at hbe
          subst hbe
          have ct := GBr.cell V hV2
          have ft := GBr.frozen V
          obtain ⟨tv, htv⟩ : ∃ tv, sn (rk S) j V = tv := ⟨_, rfl⟩
          rw [htv] at ct
          obtain ⟨w11, hw11⟩ : ∃ w11, wr.setCell ⟨q, V, none⟩ (.bool true) = w11 := ⟨_, rfl⟩
          have G11 : Hid (GB w11 q (sn (rk S) (j + 1))) := by
            have := GBr.set V true
            rw [← hV, sn_step _ _ (by rw [rk_len]; exact hj2)] at this
            rw [hV, hw11] at this
            exact this
          have hzr : q + 1 ≤ wr.heap.size := by have := HB10.out.size; have := hz10.out; omega
          have O11 : Hid (OB w11 (q + 1) (.slice A9 j c9) ((rk S).take j)) := by
            rw [← hw11]
            refine World.ownsRow.kept (HO1.out.below HB10.out (Nat.le_refl _)) (grown_set wr q V (.bool true)) ?_
            right
            intro e
            have := HO1.out.ge q e
            omega
          have hs11 : w11.heap.size = wr.heap.size := by rw [← hw11]; simp [World.setCell]
          have B11 : Hid (Below q w9 w11) := by
            rw [← hw11]; exact (HBq.out.trans (HB10.out.mono (by have := hz10.out; omega))).setCell (Nat.le_refl _) _
          have HVn : Hid ((rk S).getD j 0 = (rk S).getD j 0) := rfl
          have R13 : Hid (RB (w11.alloc (.cells #[.int .u8 (V : Int)] 5)) (w11.heap.size + 1) (some ⟨w11.heap.size, 0, none⟩) [(rk S).getD j 0]) := by
            have h := rb_cells w11 [(rk S).getD j 0] 5 (w11.heap.size + 1) (by omega)
            simp only [List.map_cons, List.map_nil, vb, hV] at h
            exact h
          have O13 : Hid (OB (w11.alloc (.cells #[.int .u8 (V : Int)] 5)) (q + 1) (.slice A9 j c9) ((rk S).take j)) := O11.out.below ((Below.refl _ _).alloc (Nat.le_refl _) _) (Nat.le_refl _)
          have hl13 : Hid (((rk S).take j).length + [(rk S).getD j 0].length ≤ 140737488355328) := by unfold Hid; rw [List.length_take, rk_len]; simp; omega
          have hs13 : Hid (q + 1 ≤ (w11.alloc (.cells #[.int .u8 (V : Int)] 5)).heap.size) := by unfold Hid; simp; omega
          have HW11 := Lib.hid hw11
          have HVV := Lib.hid hV
          clear HBS hV htv GBr GNr hw11 HB10 hs11
          go_upto_region 20 with fail
          rw [HW11.out]
          clear ct ft
          go_wp2_with (at_builtin; refine wpList_append_bytes rfl (.tmp 80) (.tmp 83) rfl (q + 1) _ ((rk S).take j) [(rk S).getD j 0] rfl O13.out (w11.heap.size + 1) (some ⟨w11.heap.size, 0, none⟩) 1 rfl R13.out hl13.out hs13.out ?_; intro v14 w14 O14 G14 E14)
          have htk : (rk S).take j ++ [(rk S).getD j 0] = (rk S).take (j + 1) := by
            rw [List.take_add_one, List.getD, List.getElem?_eq_getElem (by rw [rk_len]; exact hj2)]; rfl
          rw [htk] at O14
          obtain ⟨A14, c14, rfl, -, -, -⟩ := O14.form_n (j + 1) (by rw [List.length_take, rk_len]; omega)
          refine ⟨⟨j + 1, _, rfl, by omega, O14, ?_, ?_⟩, by simp [slLen]; omega⟩
          · refine (G11.out.alloc _).below (B := q + 1) ⟨G14.os, G14.tape, G14.output, G14.size, fun i hi => G14.block i (by have := hs13.out; omega) (fun e => ?_)⟩ (Nat.lt_succ_self _)
            have := O13.out.ge i e.symm
            omega
          · exact (B11.out.alloc (by have := B11.out.size; have := S9.out; omega) _).grown G14 (by have := hs13.out; omega) (fun k e => by have := O13.out.ge k e; omega)
    · obtain rfl : j = m := by omega
      have HBf := Lib.hid (HB9.out.trans (HBq.out.mono hwq))
      have HOf : Hid (OB w10 w.heap.size (.slice A9 j c9) ((rk S).take j)) := HO1.out.less (by omega)
      by_cases hjk : (j : Int) < k
      · have hj256 : ¬ (j : Int) < 256 := by have := HMm.out; omega
        go_wp2_with fail
        go_ret
        exact ⟨⟨_, rfl, HOf.out⟩, HBf.out⟩
      · go_wp2_with fail
        go_ret
        exact ⟨⟨_, rfl, HOf.out⟩, HBf.out⟩
end Go.Proofs.Ytphcbeccipjlgaa
