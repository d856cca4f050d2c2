/- THE PROGRAM: Chain. -/
import Derived.Test.YtomiligjcpmnjaaFo
import Derived.Carry
import Derived.Deep.CutBlock
import Derived.Deep.CutRange
import Derived.Test.YtomiligjcpmnjaaKv
import Derived.Test.YtomiligjcpmnjaaKw
namespace Go.Proofs.Ytomiligjcpmnjaa
set_option maxRecDepth 100000
open Go.RowKit Go.Maps
set_option linter.unusedVariables false
set_option linter.unusedSimpArgs false

set_option maxHeartbeats 1000000 in
theorem chain_none (z o : Int) (A : Option Addr) (n c : Nat) (P : Option Addr) (L pc : Nat) (k : Int) (w : World) (hn : n ≤ maxLen) (hmay : mayB z o n = false) :
    Calls Try.prog 31 #[byV z o A n c, .slice P L pc, .int .i64 k] w fun e w' => e = .returned (.slice none 0 0) ∧ Below w.heap.size w w' := by
  obtain ⟨w2, hw2⟩ : ∃ w2, w.alloc (.cells #[.int .i64 z, .int .i64 o, .slice A n c] 39) = w2 := ⟨_, rfl⟩
  have b2 : Below w.heap.size w w2 := by rw [← hw2]; exact (Below.refl _ _).alloc (Nat.le_refl _) _
  have HM := Lib.hid (may_any z o A n c w2 hn)
  rw [hmay, ← hw2] at HM
  have HW := Lib.hid hw2
  have B2 := Lib.hid b2
  clear hw2 b2 hmay
  unfold byV byA at HM ⊢
  go_enter Try.func31, Try.ntmps31
  go_wp2_with fail
  (with_reducible refine HM.out.mono ?_)
  rintro e w5 ⟨rfl, hb5⟩
  rw [HW.out] at hb5
  have HB5 := Lib.hid (B2.out.trans (hb5.mono B2.out.size))
  clear hb5
  go_wp2_with fail
  go_ret
  exact ⟨rfl, HB5.out⟩
theorem ob_made0 (W : World) (k : Nat) (hk : k ≤ 3000) : OB (W.alloc (madeB k)) W.heap.size (.slice (some ⟨W.heap.size, 0, none⟩) 0 k) [] :=
  World.ownsRow_made W (madeCells #[.int .u8 0] k) k (Nat.le_refl _) (by unfold maxLen; omega) (by rw [size_madeCells, Nat.mul_one])
theorem make_0 (k : Nat) (hk : k ≤ 3000) (W : World) : (Instr.makeSlice 23 (.int .i64 0) (.int .i64 (k : Int))).run Try.prog W = .ok (.slice (some ⟨W.heap.size, 0, none⟩) 0 k) (W.alloc (madeB k)) := by
  obtain ⟨i, hi, hz, h1, h2⟩ := info_parts byte_info
  have hr := run_make (P := Try.prog) W 23 5 i (.int .u8 0) Try.underlying23 hi hz .i64 .i64 0 (k : Int) (Int.le_refl _) (by omega) (by rw [h2]; omega) (by omega)
  rw [h1, Int.toNat_natCast, Nat.mul_one] at hr
  exact hr
/-- the row lies not in block M -/
def Far (v : Value) (M : Nat) : Prop := ∀ k, v.ownBlock = some k → k ≠ M
set_option maxHeartbeats 4000000 in
theorem chain_any (b : Kd) (A : Option Addr) (n c : Nat) (P : Option Addr) (p : List UInt8) (L pc : Nat) (k : Int) (w : World) (hk : KM w b A n c) (hp : PM w P p L pc) (hl : L ≤ 1000) (m : Nat) (hm : min (max k 0) 1000 = (m : Int)) :
    Calls Try.prog 31 #[byV b.k b.o A n c, .slice P L pc, .int .i64 k] w fun e w' => (∃ A' c', e = .returned (.slice A' m c') ∧ m ≤ c' ∧ c' ≤ maxLen ∧ RB w' w'.heap.size A' (chN b m p)) ∧ Below w.heap.size w w' := by
  have hmm := @run_makeMap Try.prog
  have hm1 : m ≤ 1000 := by omega
  obtain ⟨w2, hw2⟩ : ∃ w2, w.alloc (.cells #[.int .i64 b.k, .int .i64 b.o, .slice A n c] 39) = w2 := ⟨_, rfl⟩
  have b2 : Below w.heap.size w w2 := by rw [← hw2]; exact (Below.refl _ _).alloc (Nat.le_refl _) _
  have hbox : w2.heap[w.heap.size]? = some (.cells (byA b.k b.o A n c) 39 (0, 0)) := by
    rw [← hw2]
    exact heap_alloc_last w (.cells #[.int .i64 b.k, .int .i64 b.o, .slice A n c] 39)
  have s2 : w2.heap.size = w.heap.size + 1 := by rw [← hw2]; simp
  have HM := Lib.hid (may_any b.k b.o A n c w2 hk.nm)
  rw [hk.may, ← hw2] at HM
  have HW := Lib.hid hw2
  have B2 := Lib.hid b2; have HBX := Lib.hid hbox; have S2 := Lib.hid s2
  have HK := Lib.hid (hk.then_ b2)
  have HP := Lib.hid (hp.then_ b2)
  have HMm := Lib.hid hm
  obtain ⟨N, hN⟩ : ∃ N : Nat, (L : Int) + (m : Int) = N := ⟨L + m, by omega⟩
  have hN2 : N ≤ 3000 := by omega
  have hmk := make_0 N hN2
  have HOK : Hid b.ok := hk.ok
  have HLp : Hid (p.length = L) := hp.len
  clear hw2 b2 hbox s2 hk hp hm
  unfold byV byA at HM ⊢
  go_enter Try.func31, Try.ntmps31
  go_wp2_with fail
  (with_reducible refine HM.out.mono ?_)
  rintro e w3 ⟨rfl, hb3⟩
  rw [HW.out] at hb3
  have B3 : Hid (Below (w.heap.size + 1) w2 w3) := hb3.mono (by rw [S2.out]; omega)
  have P3 := Lib.hid (HP.out.then_ hb3)
  have sz3 : w.heap.size + 1 ≤ w3.heap.size := by rw [← S2.out]; exact hb3.size
  clear hb3 HM
  go_upto_region 3 with fail
  go_cut [2] from 15 to 17 (fun s2 wx => s2 = .int .i64 m ∧ w3 = wx)
  case first =>
    have hmm := HMm.out
    by_cases k0 : k < 0
    · obtain rfl : m = 0 := by omega
      clear hmm
      go_wp2_with fail
      go_meet
      exact ⟨rfl, rfl⟩
    · by_cases k1 : 1000 < k
      · obtain rfl : m = 1000 := by omega
        clear hmm
        go_wp2_with fail
        go_meet
        exact ⟨rfl, rfl⟩
      · obtain rfl : k = (m : Int) := by omega
        clear hmm
        go_wp2_with fail
        go_meet
        exact ⟨rfl, rfl⟩
  case rest =>
    obtain ⟨rfl, rfl⟩ := hcut
    have hO0 := ob_made0 w3 N hN2
    have P4 := P3.out.t.below ((Below.refl w3.heap.size w3).alloc (Nat.le_refl _) (madeB N))
    have hsz4 : (w3.alloc (madeB N)).heap.size = w3.heap.size + 1 := by simp
    have HLn : ([] : List UInt8).length + p.length ≤ 140737488355328 := by rw [HLp.out]; simp; omega
    have hPsl : Hid (Value.slice P L pc = .slice P p.length pc) := by rw [HLp.out]; rfl
    go_wp2_with (refine wpList_append_bytes rfl (.tmp 22) (.tmp 23) rfl w3.heap.size _ [] p (by with_unfolding_all rfl) hO0 w3.heap.size P pc hPsl.out P4 HLn (by rw [hsz4]; omega) ?_; intro v5 w5 O5 R5 E5)
    obtain ⟨M, hM⟩ : ∃ M, w5.heap.size = M := ⟨_, rfl⟩
    obtain ⟨w6, hw6⟩ : ∃ w6, w5.alloc (.map #[] 0) = w6 := ⟨_, rfl⟩
    have hsz5 : w3.heap.size + 1 ≤ w5.heap.size := by rw [← hsz4]; exact R5.size
    have b5 : Below (w.heap.size + 1) w2 w5 := (B3.out.trans ((Below.refl _ _).alloc (by omega) (madeB N))).grown R5 (by omega) (fun k e => by cases e; omega)
    have B6 : Hid (Below (w.heap.size + 1) w2 w6) := by rw [← hw6]; exact b5.alloc (by omega) _
    have M6 : Hid (MapS w6 M 0 (fun _ => none)) := by rw [← hw6, ← hM]; exact MapS.new w5
    have O6 : Hid (OB w6 (w.heap.size + 1) v5 (p ++ chN b 0 p)) := by
      have h := (O5.less (b' := w.heap.size + 1) (by omega)).below ((Below.refl w5.heap.size w5).alloc (Nat.le_refl _) (.map #[] 0)) (Nat.le_refl _)
      rw [hw6] at h
      simpa [Hid, chN] using h
    have F6 : Hid (Far v5 M) := fun k hk => by have := O5.low k hk; omega
    have ME6 : Hid (Memo b (p ++ chN b 0 p) (fun _ => none)) := memo_none _ _
    have HMge : Hid (w.heap.size + 1 ≤ M) := by unfold Hid; omega
    rw [hw6, hM]
    clear hM hw6 hsz5 b5 O5 R5 E5 hO0 P4 hsz4 HLn hPsl P3 B3 sz3 hmk hmm HMm hN
    go_loopw [7, 27] (fun s7 s27 wr => ∃ (j : Nat) (v : Value) (mm : List UInt8 → Option UInt8), s7 = v ∧ s27 = .int .i64 j ∧ j ≤ m ∧ Hid (OB wr (w.heap.size + 1) v (p ++ chN b j p)) ∧ Hid (Far v M) ∧ Hid (MapS wr M j mm) ∧ Hid (Memo b (p ++ chN b j p) mm) ∧ Hid (Below (w.heap.size + 1) w2 wr)) (fun _ v _ => m - (intOf v).toNat)
    case atStart => exact ⟨0, v5, _, rfl, rfl, Nat.zero_le _, O6, F6, M6, ME6, B6⟩
    case round =>
      clear O6 F6 M6 ME6 B6
      obtain ⟨j, v, mm, rfl, rfl, hj, HO, HF, HMS, HME, HB⟩ := hrel
      obtain ⟨q, hq⟩ : ∃ q, p ++ chN b j p = q := ⟨_, rfl⟩
      obtain ⟨Q, hQ⟩ : ∃ Q, q.length = Q := ⟨_, rfl⟩
      have hQ2 : Q = L + j := by rw [← hQ, ← hq, List.length_append, chN_len, HLp.out]
      rw [hq] at HO HME
      obtain ⟨A7, c7, rfl, hc7, hm7, hr7⟩ := HO.out.form_n Q hQ
      have BX : Hid (∀ wx, Below (w.heap.size + 1) w2 wx → wx.cell? ⟨w.heap.size, 0, none⟩ = some (.int .i64 b.k) ∧ wx.cell? ⟨w.heap.size, 1, none⟩ = some (.int .i64 b.o) ∧ wx.cell? ⟨w.heap.size, 2, none⟩ = some (.slice A n c)) := fun wx hx =>
        ⟨(hx.cell (p := ⟨w.heap.size, 0, none⟩) (by show w.heap.size < _; omega)).trans (cell_of_row _ _ _ _ _ _ HBX.out),
         (hx.cell (p := ⟨w.heap.size, 1, none⟩) (by show w.heap.size < _; omega)).trans (cell_of_row _ _ _ _ _ _ HBX.out),
         (hx.cell (p := ⟨w.heap.size, 2, none⟩) (by show w.heap.size < _; omega)).trans (cell_of_row _ _ _ _ _ _ HBX.out)⟩
      have hm72 := hm7
      unfold maxLen at hm72
      have hcs : Hid (m ≤ 1000 ∧ L ≤ 1000 ∧ Q = L + j) := ⟨hm1, hl, hQ2⟩
      by_cases hlt : j < m
      · have hltz : (j : Int) < (m : Int) := by omega
        obtain ⟨E, hE⟩ : ∃ E, endN b.o q = E := ⟨_, rfl⟩
        obtain ⟨el, hel⟩ : ∃ el, E.length = el := ⟨_, rfl⟩
        have HEl : Hid (E.length ≤ 2000) := by
          have := endN_len b.o q
          rw [hE] at this
          unfold Hid; rw [this, hQ]; omega
        have HC := ending_any b.k b.o A n c A7 q Q c7 wr.heap.size wr hQ hc7 hm7 hr7 (Nat.le_refl _) (by have := HOK.out; unfold Kd.ok at this; omega) el (by rw [hE]; exact hel)
        rw [hE] at HC
        replace HC := Lib.hid HC
        unfold byV byA at HC
        have c0 := (BX.out wr HB.out).1
        have c1 := (BX.out wr HB.out).2.1
        have c2 := (BX.out wr HB.out).2.2
        have HQ := Lib.hid hQ; have HQ2 := Lib.hid hQ2; have HEE := Lib.hid hE; have HELN := Lib.hid hel; have HC7 := Lib.hid hc7; have HM7 := Lib.hid hm7
        have HQQ := Lib.hid hq
        clear hr7 hQ hQ2 hE hel hc7 hm7 hq
        go_wp2_with fail
        (with_reducible refine HC.out.mono ?_)
        rintro e w8 ⟨A8, c8, rfl, hr8, hb8⟩
        have hcv := conv_rb hr8 el c8 HELN.out
        have HMS8 := Lib.hid (HMS.out.then_ hb8)
        have HO8 : Hid (OB w8 (w.heap.size + 1) (.slice A7 Q c7) q) := HO.out.below hb8 (Nat.le_refl _)
        have HB8 : Hid (Below (w.heap.size + 1) w2 w8) := HB.out.trans (hb8.mono (by have := HB.out.size; have := S2.out; omega))
        obtain ⟨x0, hx0⟩ : ∃ x0, (mm E).getD 0 = x0 := ⟨_, rfl⟩
        obtain ⟨sb, hsb⟩ : ∃ sb, (mm E).isSome = sb := ⟨_, rfl⟩
        have hlk := map_look HMS8.out E HEl.out
        rw [hx0, hsb] at hlk
        have HX0 := Lib.hid hx0
        have HSB := Lib.hid hsb
        have c08 := (BX.out w8 HB8.out).1
        clear hr8 hb8 HO HMS HB HC c0 c1 c2 hx0 hsb
        obtain ⟨bb, hbb⟩ : ∃ bb, (!sb || decide (b.k = 3)) = bb := ⟨_, rfl⟩
        have HBB := Lib.hid hbb
        clear hbb
        go_upto_region 10 with fail
        go_cut [45] from 39 to 45 (fun s45 wx => s45 = .bool bb ∧ w8 = wx)
        case first =>
          cases sb with
          | false =>
            obtain rfl : bb = true := by rw [← HBB.out]; rfl
            clear HBB
            go_wp2_with fail
            go_meet
            exact ⟨rfl, rfl⟩
          | true =>
            by_cases h3 : b.k = 3
            · have hkz : ((b.k : Int) == 3) = true := by rw [h3]; rfl
              have hkz2 : (b.k : Int) = 3 := by omega
              obtain rfl : bb = true := by rw [← HBB.out]; simp [h3]
              clear HBB h3
              go_wp2_with fail
              go_meet
              exact ⟨rfl, rfl⟩
            · have hkz : ((b.k : Int) == 3) = false := by simp; omega
              obtain rfl : bb = false := by rw [← HBB.out]; simp [h3]
              clear HBB h3
              go_wp2_with fail
              go_meet
              exact ⟨rfl, rfl⟩
        case rest =>
          obtain ⟨rfl, rfl⟩ := hcut
          clear hlk hcv
          go_upto_if 45 with fail
          go_cut [10] from 46 to 51 (fun s10 wx => s10 = .int .u8 ((nxt b q).toNat : Int) ∧ Hid (∃ mm', MapS wx M (j + 1) mm' ∧ Memo b (q ++ [nxt b q]) mm') ∧ Hid (OB wx (w.heap.size + 1) (.slice A7 Q c7) q) ∧ Hid (Below (w.heap.size + 1) w2 wx))
          case first =>
            cases bb with
            | true =>
              have c18 := (BX.out w8 HB8.out).2.1
              have c28 := (BX.out w8 HB8.out).2.2
              have HK8 : KM w8 b A n c := by
                have h := HK.out
                exact ⟨h.ok, h.len, h.nc, h.cm, RB.more (h.t.below (HB8.out.mono (by rw [S2.out]; exact Nat.le_refl _))) (by have := HB8.out.size; omega)⟩
              have HFi := Lib.hid (first_any b A n c A7 q Q c7 w8 HK8.ok HK8.len HK8.nc HK8.cm HK8.t HQ.out HC7.out HM7.out (by obtain ⟨A9, c9, e9, _, _, r9⟩ := HO8.out.form_n Q HQ.out; cases e9; exact r9) (by have := hcs.out; omega))
              unfold byV byA at HFi
              clear HK8
              go_wp2_with fail
              (with_reducible refine HFi.out.mono ?_)
              rintro e w9 ⟨rfl, hb9⟩
              have HMS9 := HMS8.out.then_ hb9
              have HO9 : Hid (OB w9 (w.heap.size + 1) (.slice A7 Q c7) q) := HO8.out.below hb9 (Nat.le_refl _)
              have HB9 : Hid (Below (w.heap.size + 1) w2 w9) := HB8.out.trans (hb9.mono (by have := HB8.out.size; have := S2.out; omega))
              have HPU : Hid (Memo b (q ++ [nxt b q]) (mset mm E (nxt b q))) := memo_push HME.out HOK.out _ (.inl (by rw [HEE.out]))
              clear hb9 HFi HO8 HB8
              go_wp2_with (refine wpList_map_put rfl (.tmp 49) (.tmp 50) (.tmp 51) rfl M j mm (by with_unfolding_all rfl) HMS9 (by have := hcs.out; omega) E HEl.out (nxt b q) (by with_unfolding_all rfl) (by with_unfolding_all rfl) ?_; intro w10 MS10 R10)
              go_meet
              refine ⟨rfl, ⟨_, MS10, HPU.out⟩, ?_, ?_⟩
              · refine World.ownsRow.kept HO9.out R10 ?_
                right
                intro e
                exact HF.out M e rfl
              · exact HB9.out.grown R10 (by have := HB9.out.size; have := S2.out; omega) (fun k e => by cases e; exact HMge.out)
            | false =>
              have h0 := HBB.out
              have h3 : b.k ≠ 3 := by intro h; rw [h] at h0; simp at h0
              have h4 : sb = true := by cases sb with
                | true => rfl
                | false => simp at h0
              have h5 : mm E = some x0 := by
                have h6 := HSB.out
                have h7 := HX0.out
                rw [h4] at h6
                cases hmE : mm E with
                | none => rw [hmE] at h6; cases h6
                | some y => rw [hmE] at h7; simp at h7; rw [h7]
              have h6 : nxt b q = x0 := memo_hit HME.out HOK.out h3 (by rw [HEE.out]; exact h5)
              have HPU : Hid (Memo b (q ++ [nxt b q]) mm) := memo_push HME.out HOK.out mm (.inr ⟨rfl, h3, by rw [HEE.out, h5, h6]⟩)
              have HMS9 : Hid (MapS w8 M (j + 1) mm) := by
                obtain ⟨D, d1, d2⟩ := HMS8.out
                exact ⟨D, d1.mono (by omega), d2⟩
              have H6 := Lib.hid h6
              clear h0 h3 h4 h5 h6
              go_wp2_with fail
              go_meet
              exact ⟨by rw [H6.out], ⟨mm, HMS9.out, HPU.out⟩, HO8, HB8⟩
          case rest =>
            obtain ⟨rfl, HX, HO9, HB9⟩ := hcut
            obtain ⟨mm', MS9, ME9⟩ := HX.out
            have HMS9 := Lib.hid MS9
            have HME9 := Lib.hid ME9
            obtain ⟨w9, hw9⟩ : ∃ w9, wc = w9 := ⟨_, rfl⟩
            rw [hw9] at HO9 HB9 HMS9 ⊢
            clear HX MS9 ME9 hw9 HMS8 HO8 HB8 c08 HME HBB HSB HX0
            have hw10 : Below w9.heap.size w9 (w9.alloc (.cells #[.int .u8 ((nxt b q).toNat : Int)] 5)) := (Below.refl _ _).alloc (Nat.le_refl _) _
            have O10 : OB (w9.alloc (.cells #[.int .u8 ((nxt b q).toNat : Int)] 5)) (w.heap.size + 1) (.slice A7 Q c7) q := HO9.out.below hw10 (Nat.le_refl _)
            have R10 : RB (w9.alloc (.cells #[.int .u8 ((nxt b q).toNat : Int)] 5)) (w9.heap.size + 1) (some ⟨w9.heap.size, 0, none⟩) [nxt b q] := rb_cells w9 [nxt b q] 5 (w9.heap.size + 1) (by omega)
            have hl10 : q.length + [nxt b q].length ≤ 140737488355328 := by rw [HQ.out]; have := hcs.out; simp; omega
            have hs10 : w.heap.size + 1 ≤ (w9.alloc (.cells #[.int .u8 ((nxt b q).toNat : Int)] 5)).heap.size := by have := HB9.out.size; have := S2.out; simp; omega
            have M10 := HMS9.out.then_ hw10
            clear hw10
            go_wp2_with (refine wpList_append_bytes rfl (.tmp 52) (.tmp 54) rfl (w.heap.size + 1) (.slice A7 Q c7) q [nxt b q] (by with_unfolding_all rfl) O10 (w9.heap.size + 1) (some ⟨w9.heap.size, 0, none⟩) 1 (by with_unfolding_all rfl) R10 hl10 hs10 ?_; intro v11 w11 O11 G11 E11)
            have hjj : chN b (j + 1) p = chN b j p ++ [nxt b q] := by rw [chN_snoc, HQQ.out]
            have hq2 : p ++ chN b (j + 1) p = q ++ [nxt b q] := by rw [hjj, ← List.append_assoc, HQQ.out]
            have hMlt := HMS9.out.lt
            refine ⟨⟨j + 1, v11, mm', rfl, by go_num, by omega, ?_, ?_, ?_, ?_, ?_⟩, by simp [intOf]; omega⟩
            · rw [hq2]; exact O11
            · intro k hk
              rcases E11 with e | e
              · rw [e] at hk; exact HF.out k hk
              · rw [e] at hk
                have : k = w9.heap.size + 1 := by
                  have := Option.some.inj hk
                  rw [← this]; simp
                omega
            · exact M10.kept G11 (fun e => HF.out M e.symm rfl)
            · rw [hq2]; exact HME9.out
            · exact (HB9.out.alloc (by have := HB9.out.size; have := S2.out; omega) _).grown G11 (by have := HB9.out.size; have := S2.out; simp; omega) HO9.out.ge
      · obtain rfl : j = m := by omega
        have hltz : ¬ (j : Int) < (j : Int) := by omega
        have hcut2 := hr7.cut L c7 (by rw [hQ]; omega) (by rw [hQ]; exact hc7)
        have hd : q.drop L = chN b j p := by rw [← hq, ← HLp.out]; simp
        rw [hd] at hcut2
        have HB9 : Hid (Below w.heap.size w wr) := B2.out.trans (HB.out.mono (by omega))
        have hLQ : L ≤ Q := by omega
        have hQL : Q - L = j := by omega
        have hLc : L ≤ c7 := by omega
        by_cases hcL : c7 = L
        · rw [if_pos hcL] at hcut2
          have HCU := Lib.hid hcut2
          subst hcL
          obtain rfl : j = 0 := by omega
          obtain rfl : Q = c7 := by omega
          clear hq hQ hd hr7 hcut2 hQ2 hQL
          go_wp2_with fail
          go_ret
          exact ⟨⟨_, _, rfl, by unfold maxLen; omega, HCU.out⟩, HB9.out⟩
        · rw [if_neg hcL] at hcut2
          have HCU := Lib.hid hcut2
          have HQL := Lib.hid hQL
          clear hq hQ hd hr7 hcut2 hQ2
          go_wp2_with fail
          go_ret
          exact ⟨⟨_, _, rfl, by omega, by unfold maxLen; omega, HCU.out⟩, HB9.out⟩
end Go.Proofs.Ytomiligjcpmnjaa
