/- THE PROGRAM: Rank. -/
import Derived.Test.YtomiligjcpmnjaaFm
import Derived.Deep.OwnRows
import Derived.Test.YtomiligjcpmnjaaKv
import Derived.Test.YtomiligjcpmnjaaKw
namespace Go.Proofs.Ytomiligjcpmnjaa
set_option maxRecDepth 100000
open Go.RowKit
set_option linter.unusedVariables false
set_option linter.unusedSimpArgs false

theorem make_256 (W : World) : (Instr.makeSlice 23 (.int .i64 256) (.int .i64 256)).run Try.prog W = .ok (.slice (some ⟨W.heap.size, 0, none⟩) 256 256) (W.alloc (madeB 256)) := make_b 256 (by omega) W
/-- filled up to i -/
def upto (i : Nat) : Nat → UInt8 := fun v => if v < i then id8 v else 0
theorem upto_zero : rL (upto 0) = List.replicate 256 0 := by decide
theorem upto_step (i : Nat) : upd (upto i) i (id8 i) = upto (i + 1) := by
  funext v
  unfold upd upto
  by_cases c : v = i
  · rw [if_pos c, c, if_pos (by omega)]
  · rw [if_neg c]
    by_cases c2 : v < i
    · rw [if_pos c2, if_pos (by omega)]
    · rw [if_neg c2, if_neg (by omega)]
theorem upto_all : rL (upto 256) = rL id8 := by
  unfold rL
  refine List.map_congr_left (fun v hv => ?_)
  unfold upto; rw [if_pos (List.mem_range.1 hv)]
theorem OB.rb {w : World} {base g n c : Nat} {l : List UInt8} (h : OB w base (.slice (some ⟨g, 0, none⟩) n c) l) (m : Nat) (hn : l.length = n) : RB w w.heap.size (some ⟨g, 0, none⟩) (l.take m) := by
  subst hn
  exact h.cells.take m
set_option maxHeartbeats 1000000 in
theorem rank_none (z o : Int) (A : Option Addr) (n c : Nat) (P : Option Addr) (L pc : Nat) (k : Int) (w : World) (hn : n ≤ maxLen) (hmay : mayB z o n = false) :
    Calls Try.prog 22 #[byV z o A n c, .slice P L pc, .int .i64 k] w fun e w' => e = .returned (.slice none 0 0) ∧ Below w.heap.size w w' := by
  obtain ⟨w2, hw2⟩ : ∃ w2, w.alloc (.cells #[.int .i64 z, .int .i64 o, .slice A n c] 39) = w2 := ⟨_, rfl⟩
  have b2 : Below w.heap.size w w2 := by rw [← hw2]; exact (Below.refl _ _).alloc (Nat.le_refl _) _
  have HM := Lib.hid (may_any z o A n c w2 hn)
  rw [hmay, ← hw2] at HM
  have HW := Lib.hid hw2
  have B2 := Lib.hid b2
  clear hw2 b2 hmay
  unfold byV byA at HM ⊢
  go_enter Try.func22, Try.ntmps22
  go_wp2_with fail
  (with_reducible refine HM.out.mono ?_)
  rintro e w5 ⟨rfl, hb5⟩
  rw [HW.out] at hb5
  have HB5 := Lib.hid (B2.out.trans (hb5.mono B2.out.size))
  clear hb5
  go_wp2_with fail
  go_ret
  exact ⟨rfl, HB5.out⟩
/-- what a kind is in memory -/
structure KM (w : World) (b : Kd) (A : Option Addr) (n c : Nat) : Prop where
  ok : b.ok
  len : b.tb.length = n
  nc : n ≤ c
  cm : c ≤ maxLen
  t : RB w w.heap.size A b.tb
theorem KM.then_ {w w' : World} {b : Kd} {A : Option Addr} {n c : Nat} (h : KM w b A n c) (hb : Below w.heap.size w w') : KM w' b A n c := ⟨h.ok, h.len, h.nc, h.cm, RB.more (h.t.below hb) hb.size⟩
theorem KM.may {w : World} {b : Kd} {A : Option Addr} {n c : Nat} (h : KM w b A n c) : mayB b.k b.o n = true := by
  have h1 := h.ok
  have h2 := h.len
  unfold Kd.ok at h1
  refine mayB_t ?_
  rcases h1 with ⟨q1, q2, q3⟩ | ⟨q1, q2, q3⟩ | ⟨q1, q2, q3, q4⟩
  · rw [q3] at h2; simp at h2; omega
  · rw [q3] at h2; simp at h2; omega
  · omega
theorem KM.nm {w : World} {b : Kd} {A : Option Addr} {n c : Nat} (h : KM w b A n c) : n ≤ maxLen := Nat.le_trans h.nc h.cm
/-- what was pressed, in memory -/
structure PM (w : World) (P : Option Addr) (p : List UInt8) (L pc : Nat) : Prop where
  len : p.length = L
  nc : L ≤ pc
  cm : pc ≤ maxLen
  t : RB w w.heap.size P p
theorem PM.then_ {w w' : World} {P : Option Addr} {p : List UInt8} {L pc : Nat} (h : PM w P p L pc) (hb : Below w.heap.size w w') : PM w' P p L pc := ⟨h.len, h.nc, h.cm, RB.more (h.t.below hb) hb.size⟩
set_option maxHeartbeats 2000000 in
theorem rank_any (b : Kd) (A : Option Addr) (n c : Nat) (P : Option Addr) (p : List UInt8) (L pc : Nat) (k : Int) (w : World) (hk : KM w b A n c) (hp : PM w P p L pc) (hl : L ≤ 2000) (m : Nat) (hm : min (max k 0) 256 = (m : Int)) :
    Calls Try.prog 22 #[byV b.k b.o A n c, .slice P L pc, .int .i64 k] w fun e w' => (∃ g, e = .returned (.slice (some ⟨g, 0, none⟩) m 256) ∧ w.heap.size ≤ g ∧ RB w' w'.heap.size (some ⟨g, 0, none⟩) ((rk (sc b p)).take m)) ∧ Below w.heap.size w w' := by
  have hz := zeroN
  have hmk := make_256
  obtain ⟨w2, hw2⟩ : ∃ w2, w.alloc (.cells #[.int .i64 b.k, .int .i64 b.o, .slice A n c] 39) = w2 := ⟨_, rfl⟩
  have b2 : Below w.heap.size w w2 := by rw [← hw2]; exact (Below.refl _ _).alloc (Nat.le_refl _) _
  have hbox : w2.heap[w.heap.size]? = some (.cells (byA b.k b.o A n c) 39 (0, 0)) := by
    rw [← hw2]
    exact heap_alloc_last w (.cells #[.int .i64 b.k, .int .i64 b.o, .slice A n c] 39)
  have s2 : w2.heap.size = w.heap.size + 1 := by rw [← hw2]; simp
  have HM := Lib.hid (may_any b.k b.o A n c w2 hk.nm)
  rw [hk.may, ← hw2] at HM
  have HW := Lib.hid hw2
  have B2 := Lib.hid b2; have HBX := Lib.hid hbox; have S2 := Lib.hid s2
  have HK := Lib.hid (hk.then_ b2)
  have HP := Lib.hid (hp.then_ b2)
  have HMm := Lib.hid hm
  obtain ⟨S, hS⟩ : ∃ S, sc b p = S := ⟨_, rfl⟩
  rw [hS]
  have HSc := Lib.hid hS
  clear hw2 b2 hbox s2 hk hp hm hS
  unfold byV byA at HM ⊢
  go_enter Try.func22, Try.ntmps22
  go_wp2_with fail
  (with_reducible refine HM.out.mono ?_)
  rintro e w3 ⟨rfl, hb3⟩
  rw [HW.out] at hb3
  have c0 : w3.cell? ⟨w.heap.size, 0, none⟩ = some (.int .i64 b.k) := (hb3.cell (p := ⟨w.heap.size, 0, none⟩) (by show w.heap.size < _; rw [S2.out]; omega)).trans (cell_of_row _ _ _ _ _ _ HBX.out)
  have c1 : w3.cell? ⟨w.heap.size, 1, none⟩ = some (.int .i64 b.o) := (hb3.cell (p := ⟨w.heap.size, 1, none⟩) (by show w.heap.size < _; rw [S2.out]; omega)).trans (cell_of_row _ _ _ _ _ _ HBX.out)
  have c2 : w3.cell? ⟨w.heap.size, 2, none⟩ = some (.slice A n c) := (hb3.cell (p := ⟨w.heap.size, 2, none⟩) (by show w.heap.size < _; rw [S2.out]; omega)).trans (cell_of_row _ _ _ _ _ _ HBX.out)
  have HK3 := Lib.hid (HK.out.then_ hb3)
  have HP3 := Lib.hid (HP.out.then_ hb3)
  have HB3 := Lib.hid (B2.out.trans (hb3.mono B2.out.size))
  have HE := Lib.hid (scores_any b A n c P p L pc w3 HK3.out.ok HK3.out.len HK3.out.nc HK3.out.cm HK3.out.t HP3.out.len HP3.out.nc HP3.out.cm HP3.out.t hl)
  rw [HSc.out] at HE
  unfold byV byA at HE
  clear hb3 HM HK HP
  go_wp2_with fail
  (with_reducible refine HE.out.mono ?_)
  rintro e w5 ⟨rfl, hb5⟩
  have HB5 := Lib.hid (HB3.out.trans (hb5.mono HB3.out.size))
  have g6 : GN (w5.alloc (.cells (aN z256) 70)) w5.heap.size z256 := GN.new w5 z256
  clear hb5 HE c0 c1 c2
  go_wp2_with (with_reducible refine wpList_store_n rfl (.tmp 7) (.tmp 15) rfl w5.heap.size (by with_unfolding_all rfl) z256 S g6 (by with_unfolding_all rfl) ?_; intro w7 G7 S7 R7)
  obtain ⟨s, hs⟩ : ∃ s, w5.heap.size = s := ⟨_, rfl⟩
  have s7 : w7.heap.size = s + 1 := by rw [S7, ← hs]; simp
  have hsw : w.heap.size ≤ s := by rw [← hs]; exact HB5.out.size
  have B7 : Below w.heap.size w w7 := (HB5.out.alloc HB5.out.size (.cells (aN z256) 70)).grown R7 (by simp; have := HB5.out.size; omega) (fun k e => by cases e; exact HB5.out.size)
  rw [hs] at G7 ⊢
  obtain ⟨w8, hw8⟩ : ∃ w8, w7.alloc (madeB 256) = w8 := ⟨_, rfl⟩
  have H8 : Hid (SO w8 w8 s (s + 1) S (upto 0)) := by
    refine ⟨?_, ?_, by omega, ⟨rfl, rfl, rfl, Nat.le_refl _, fun _ _ _ => rfl⟩⟩
    · rw [← hw8]; exact G7.alloc _
    · have h := ob_made w7 256 (by omega)
      rw [hw8, s7] at h
      unfold OF sV
      rw [upto_zero]
      exact h
  have B8 : Hid (Below w.heap.size w w8) := by rw [← hw8]; exact B7.alloc B7.size _
  have Z8 : Hid (w8.heap.size = s + 2) := by unfold Hid; rw [← hw8]; simp; omega
  rw [hw8]
  clear hs S7 R7 G7 hw8 B7 s7 g6 HB5 HB3 HK3 HP3 hz hmk S2 HBX B2 HW
  go_loopw [19] (fun v wr => ∃ i : Nat, v = .int .i64 i ∧ i ≤ 256 ∧ Hid (SO w8 wr s (s + 1) S (upto i))) (fun v _ => 256 - (intOf v).toNat)
  case atStart => exact ⟨0, rfl, by omega, H8⟩
  case round =>
    clear H8
    obtain ⟨i, rfl, hi, HG⟩ := hrel
    by_cases hlt : i < 256
    · have hltz : (i : Int) < 256 := by omega
      have cy := HG.out.of.cell i hlt
      have fy := HG.out.of.frozen i
      obtain ⟨y, hy⟩ : ∃ y, ((upto i i).toNat : Int) = y := ⟨_, rfl⟩
      rw [hy] at cy
      have HN : Hid (SO w8 (wr.setCell ⟨s + 1, i, none⟩ (.int .u8 (i : Int))) s (s + 1) S (upto (i + 1))) := by
        have h1 := HG.out.of.set i (id8 i)
        rw [id8_nat i hlt, upto_step] at h1
        exact ⟨HG.out.gn.other _ _ (by simp), h1, HG.out.ne, grown_trans_ HG.out.gr (grown_set wr (s + 1) i _)⟩
      clear HG hy
      go_wp2_with fail
      exact ⟨⟨i + 1, by go_num, by omega, HN⟩, by simp [intOf]; omega⟩
    · obtain rfl : i = 256 := by omega
      have HS : Hid (SO wr wr s (s + 1) S id8) := by
        have h := HG.out.self
        refine ⟨h.gn, ?_, h.ne, h.gr⟩
        have h2 := h.of
        unfold OF at h2 ⊢
        rw [← upto_all]; exact h2
      have HC := Lib.hid (sort_any wr s (s + 1) S HS.out)
      unfold sV cmpV at HC
      go_wp2_with fail
      (with_reducible refine HC.out.mono ?_)
      rintro e w9 ⟨rfl, F, hs9, hsr, hpm⟩
      have HB9 : Hid (Below w.heap.size w w9) := B8.out.grown (grown_trans_ HG.out.gr hs9.gr) (by have := B8.out.size; omega) (fun k e => by cases e; omega)
      have HR : Hid (RB w9 w9.heap.size (some ⟨s + 1, 0, none⟩) ((rk S).take m)) := by
        have h := hs9.of
        unfold OF sV at h
        rw [row_rk hsr hpm] at h
        exact OB.rb h m (rk_len S)
      have HL : Hid (w.heap.size ≤ s + 1) := by unfold Hid; omega
      have hmm := HMm.out
      clear hs9 hsr hpm HC HS HG HMm
      by_cases k0 : k < 0
      · obtain rfl : m = 0 := by omega
        clear hmm
        go_wp2_with fail
        go_ret
        exact ⟨⟨s + 1, rfl, HL.out, HR.out⟩, HB9.out⟩
      · by_cases k1 : 256 < k
        · obtain rfl : m = 256 := by omega
          clear hmm
          go_wp2_with fail
          go_ret
          exact ⟨⟨s + 1, rfl, HL.out, HR.out⟩, HB9.out⟩
        · obtain rfl : k = (m : Int) := by omega
          have hm0 : m ≤ 256 := by omega
          clear hmm
          go_wp2_with fail
          go_ret
          exact ⟨⟨s + 1, rfl, HL.out, HR.out⟩, HB9.out⟩
end Go.Proofs.Ytomiligjcpmnjaa
