/- WALK of the law CodeBytes. -/
import Derived.Test.YtjjhdbcekkmjfaaOq
import Derived.Deep.DeepCutAuto
namespace Go.Proofs.Ytjjhdbcekkmjfaa
open Go.RowKit
set_option linter.unusedVariables false
attribute [local go_sem ↓] Go.wp_at_zero Go.wp_at_succ

/-- two stores into a program's block -/
theorem stored2 {w : World} {G : Nat} {u v u' v' : Value} (h0 : w.cell? ⟨G, 0, none⟩ = some u') (h1 : w.cell? ⟨G, 1, none⟩ = some v') (B : Nat) (hB : B ≤ G) :
    ((w.setCell ⟨G, 0, none⟩ u).setCell ⟨G, 1, none⟩ v).cell? ⟨G, 0, none⟩ = some u ∧ ((w.setCell ⟨G, 0, none⟩ u).setCell ⟨G, 1, none⟩ v).cell? ⟨G, 1, none⟩ = some v ∧
    Below B w ((w.setCell ⟨G, 0, none⟩ u).setCell ⟨G, 1, none⟩ v) ∧ ((w.setCell ⟨G, 0, none⟩ u).setCell ⟨G, 1, none⟩ v).heap.size = w.heap.size := by
  refine ⟨?_, ?_, ((Below.refl _ _).setCell hB _).setCell hB _, by simp⟩
  · go_simp
  · go_simp
/-- owned bytes made a string -/
theorem conv_own {w : World} {base n cap : Nat} {A : Option Addr} {l : List UInt8} (h : OB w base (.slice A n cap) l) (hn : l.length = n) : (convert 27 9 (.slice A n cap)).run Try.prog w = .ok (.string (str l)) w := by
  subst hn
  have h' := h
  rcases h.2 with ⟨hv, h0⟩ | ⟨g, cap', cur, hv, _⟩
  · injection hv with h1 h2 h3
    subst h1 h3
    obtain rfl := List.eq_nil_of_length_eq_zero h0
    exact run_convert_bytes_nil w 27 5 Try.underlying27 Try.underlying5 0 0 9 Try.underlying9
  · injection hv with h1 h2 h3
    subst h1 h3
    exact conv_bytes w g 0 cap l _ h'.cells l.length rfl
theorem encB_fits {t : ByteArray} {os : List O4} (h : encB t os ≠ []) : fitsB (titB t) os = true := by
  cases hf : fitsB (titB t) os with
  | true => rfl
  | false => unfold encB at h; rw [hf] at h; exact absurd rfl h
theorem encB_prog {t : ByteArray} {os : List O4} (h : encB t os ≠ []) (ht : t.size ≤ 65536) : progN titL (encB t os) = some (t.data.toList, os) := by
  have hf := encB_fits h
  have e : encB t os = encP t.data.toList os := by unfold encB; rw [if_pos hf]
  rw [e]
  exact progN_put titL _ os ht (show fitsB (titB (str t.data.toList)) os = true from hf)
theorem str_data (t : ByteArray) : str t.data.toList = t := rfl
/-- Decode of what Encode wrote -/
theorem unpack_own {u : ByteArray} {y : List O4} {l : List UInt8} (hl : encB u y = l) (hne : l ≠ []) (hu : u.size ≤ 40) (A : Option Addr) (c B : Nat) (w : World) (hr : RB w B A l) (hB : B ≤ w.heap.size) (hc : l.length ≤ c) (hm : c ≤ maxLen) :
    Calls Try.prog 13 #[.slice A l.length c] w fun e w' => ∃ g, e = .returned (.tuple #[.agg #[.string u, .slice (some ⟨g, 0, none⟩) y.length y.length], .int .i64 0]) ∧ w.heap.size ≤ g ∧ OpRow w' g y.length y ∧ Below w.heap.size w w' := by
  refine (unpack_any A l c B w hr hB hc hm).mono ?_
  intro e w' h
  unfold Decoded at h
  subst hl
  rw [encB_prog hne (by omega)] at h
  exact h
set_option maxHeartbeats 4000000 in
theorem bytes_law (t : ByteArray) (A : Option Addr) (x : List O4) (c : Nat) (at_ a : Int) (w : World) (h1 : RO w w.heap.size A x) (k1 : x.length ≤ c) (m1 : c ≤ maxLen) (n1 : -9223372036854775808 ≤ at_) (n2 : at_ ≤ 9223372036854775807) (wa : (Lit.int .u8 a).wf = true) :
    Calls Try.prog 3 #[progV t A x.length c, .int .i64 at_, .int .u8 a] w fun e w' => e = .returned (.bool true) ∧ Below w.heap.size w w' := by
  have H1 := Lib.hid h1; clear h1
  unfold progV
  have b0 : Below w.heap.size w (w.alloc (.cells #[.string t, .slice A x.length c] 24)) := (Below.refl _ _).alloc (Nat.le_refl _) _
  have h70 : Hid ((70 : Int) = ((70 : Nat) : Int)) := by unfold Hid; omega
  have C1 := fun W => lcut_named t A x c 70 70 h70 W (by omega) (by omega) k1 m1
  have HC1 := Lib.hid C1; clear C1
  have N1 := Lib.hid n1; have N2 := Lib.hid n2; clear n1 n2
  go_enter Try.func3, Try.ntmps3
  go_wp2_with fail
  refine (begun_any _).mono ?_
  rintro e w1 ⟨rfl, hb1⟩
  obtain ⟨hc0, hc1, hf0, hf1⟩ := two_cells hb1 (by simp)
  have hb2 := b0.trans (hb1.mono (by simp))
  have hs1 := hb1.size
  rw [World.size_alloc] at hs1
  clear hb1 b0
  go_wp2_with fail
  refine (HC1.out _).mono ?_
  rintro e w2 ⟨u, y, hu, hy, rfl, hb3⟩
  have d0 := (hb3.cell (p := ⟨w.heap.size, 0, none⟩) (show w.heap.size < _ by omega)).trans hc0
  have d1 := (hb3.cell (p := ⟨w.heap.size, 1, none⟩) (show w.heap.size < _ by omega)).trans hc1
  have e0 := (hb3.frozen (p := ⟨w.heap.size, 0, none⟩) (show w.heap.size < _ by omega)).trans hf0
  have e1 := (hb3.frozen (p := ⟨w.heap.size, 1, none⟩) (show w.heap.size < _ by omega)).trans hf1
  have hb4 := hb2.trans (hb3.mono hb2.size)
  have hs2 := Nat.le_trans hs1 hb3.size
  clear hc0 hc1 hf0 hf1 hb2 hb3
  obtain ⟨s0, s1, sb, sz⟩ := stored2 (u := .string u) (v := .slice A y.length c) d0 d1 w.heap.size (Nat.le_refl _)
  have hbW := hb4.trans sb
  have hyl : y.length ≤ c := by rw [hy.out, List.length_take]; omega
  have hut : u.size ≤ 40 := by rw [hu.out]; exact cutT_size _
  have R0 := Lib.hid (show RO ((w2.setCell ⟨w.heap.size, 0, none⟩ (.string u)).setCell ⟨w.heap.size, 1, none⟩ (.slice A y.length c)) w.heap.size A y by have r0 := (H1.out.below hbW).take 70; rw [← hy.out] at r0; exact r0)
  have HE := Lib.hid (encode_any u A y c w.heap.size ((w2.setCell ⟨w.heap.size, 0, none⟩ (.string u)).setCell ⟨w.heap.size, 1, none⟩ (.slice A y.length c)) R0.out (by rw [sz]; omega) hyl m1 (by omega))
  have S0 := Lib.hid s0; have S1 := Lib.hid s1; have SZ := Lib.hid sz
  clear s0 s1 sz sb HC1 hb4 H1
  unfold progV at HE
  go_wp2_with fail
  (with_reducible refine HE.out.mono ?_)
  rintro e w4 ⟨v, rfl, ho, hb5⟩
  obtain ⟨l, hl⟩ : ∃ l, encB u y = l := ⟨_, rfl⟩
  rw [hl] at ho
  obtain ⟨A4, c4, rfl, hc4, hm4, hr4⟩ := ho.form _ rfl
  have p0 := (hb5.cell (p := ⟨w.heap.size, 0, none⟩) (show w.heap.size < _ by have := SZ.out; omega)).trans S0.out
  have p1 := (hb5.cell (p := ⟨w.heap.size, 1, none⟩) (show w.heap.size < _ by have := SZ.out; omega)).trans S1.out
  have hs4 : w.heap.size + 1 ≤ w4.heap.size := by have := SZ.out; have := hb5.size; omega
  have hb6 := hbW.trans (hb5.mono (by have := SZ.out; omega))
  have R4 := Lib.hid (R0.out.below (hb5.mono (by have := SZ.out; omega)))
  have HO := Lib.hid ho; have HL := Lib.hid hl
  have HR4 := Lib.hid hr4
  clear ho hl hr4 hb5 R0 S0 S1 hbW SZ HE d0 d1 e0 e1
  go_wp2_with fail
  have hv1 := conv_own (w := w4.drew) HO.out rfl
  have hE2 : ∀ W, Below w4.heap.size w4 W → Calls Try.prog 12 #[progV u A y.length c] W fun e w' => ∃ A' c, e = .returned (.slice A' l.length c) ∧ Hid (OB w' W.heap.size (.slice A' l.length c) l) ∧ Below W.heap.size W w' := fun W hW => by
    refine (refencode_any u A y c w.heap.size W (R4.out.below (hW.mono (by omega))) (by have := hW.size; omega) hyl m1 (by omega)).mono ?_
    rintro e w' ⟨v, rfl, ho, hbw⟩
    rw [HL.out] at ho
    obtain ⟨A', c, rfl, _, _, _⟩ := ho.form _ rfl
    exact ⟨A', c, rfl, ho, hbw⟩
  unfold progV at hE2
  have HE2 := Lib.hid hE2; clear hE2
  have hbc : Below w4.heap.size w4 w4.drew := (Below.refl _ _).drew
  go_upto_region 6 with fail
  go_cut [24] (fun s24 wx => s24 = .bool false ∧ Below w4.heap.size w4 wx)
  case first =>
    go_region_with (first
      | (go_at_call 12; refine (HE2.out _ hbc).mono ?_; rintro e w5 ⟨A5, c5, rfl, ho5, hb7⟩; have hv2 := conv_own ho5.out rfl; have hbx := hbc.trans (hb7.mono hbc.size); have hv3 := conv_own (HO.out.below hbx (Nat.le_refl _)) rfl))
    all_goals
      go_wp2_with fail
      go_meet
      exact ⟨by simp, hbx⟩
  case rest =>
    obtain ⟨rfl, hbx⟩ := hcut
    clear hv1 hbc HE2
    have q0 := (hbx.cell (p := ⟨w.heap.size, 0, none⟩) (show w.heap.size < _ by omega)).trans p0
    have q1 := (hbx.cell (p := ⟨w.heap.size, 1, none⟩) (show w.heap.size < _ by omega)).trans p1
    have hb8 := hb6.trans (hbx.mono hb6.size)
    by_cases he : l = []
    · subst he
      go_wp2_with fail
      go_ret
      exact ⟨rfl, hb8⟩
    · have n1 : ((l.length : Int) == 0) = false := by simp; exact he
      have HD := Lib.hid (unpack_own HL.out he hut A4 c4 w4.heap.size wc (HR4.out.below hbx) hbx.size hc4 hm4)
      have hpos : 0 < l.length := List.length_pos_iff.2 he
      clear he
      go_wp2_with fail
      (with_reducible refine HD.out.mono ?_)
      rintro e w6 ⟨g, rfl, hg, hrow, hb9⟩
      have hgl : g < w6.heap.size := World.rowIs.lt hrow
      have hs6 : w.heap.size + 1 ≤ w6.heap.size := by have := hbx.size; have := hb9.size; omega
      have bp : Below w6.heap.size w6 (w6.alloc (.cells #[.string u, .slice (some ⟨g, 0, none⟩) y.length y.length] 24)) := (Below.refl _ _).alloc (Nat.le_refl _) _
      have hbP : Below w4.heap.size w4 (w6.alloc (.cells #[.string u, .slice (some ⟨g, 0, none⟩) y.length y.length] 24)) := hbx.trans ((hb9.mono hbx.size).trans (bp.mono (by have := hbx.size; have := hb9.size; omega)))
      have hrq : RO (w6.alloc (.cells #[.string u, .slice (some ⟨g, 0, none⟩) y.length y.length] 24)) w6.heap.size (some ⟨g, 0, none⟩) y := OpRow.reads (rowIs_below hrow bp hgl) (Nat.le_refl _) _ hgl
      have HRq := Lib.hid hrq; have HBP := Lib.hid hbP
      have hszP : (w6.alloc (.cells #[.string u, .slice (some ⟨g, 0, none⟩) y.length y.length] 24)).heap.size = w6.heap.size + 1 := by simp
      have HSZ := Lib.hid hszP
      have r0 : (w6.alloc (.cells #[.string u, .slice (some ⟨g, 0, none⟩) y.length y.length] 24)).cell? ⟨w.heap.size, 0, none⟩ = some (.string u) := (hbP.cell (p := ⟨w.heap.size, 0, none⟩) (show w.heap.size < _ by omega)).trans p0
      have r1 : (w6.alloc (.cells #[.string u, .slice (some ⟨g, 0, none⟩) y.length y.length] 24)).cell? ⟨w.heap.size, 1, none⟩ = some (.slice A y.length c) := (hbP.cell (p := ⟨w.heap.size, 1, none⟩) (show w.heap.size < _ by omega)).trans p1
      have Z0 := Lib.hid r0; have Z1 := Lib.hid r1
      have X0 := Lib.hid (show (w6.alloc (.cells #[.string u, .slice (some ⟨g, 0, none⟩) y.length y.length] 24)).cell? ⟨w6.heap.size, 0, none⟩ = some (.string u) by simp)
      have X1 := Lib.hid (show (w6.alloc (.cells #[.string u, .slice (some ⟨g, 0, none⟩) y.length y.length] 24)).cell? ⟨w6.heap.size, 1, none⟩ = some (.slice (some ⟨g, 0, none⟩) y.length y.length) by simp)
      have hEq : ∀ W, Below (w6.alloc (.cells #[.string u, .slice (some ⟨g, 0, none⟩) y.length y.length] 24)).heap.size (w6.alloc (.cells #[.string u, .slice (some ⟨g, 0, none⟩) y.length y.length] 24)) W → Calls Try.prog 15 #[progV u A y.length c, progV u (some ⟨g, 0, none⟩) y.length y.length] W fun e w' => e = .returned (.bool true) ∧ Below W.heap.size W w' := fun W hW =>
        ceq_any u u A (some ⟨g, 0, none⟩) y y c y.length w6.heap.size W ((R4.out.below ((HBP.out.mono (by omega)).trans (hW.mono (by rw [HSZ.out]; omega)))).more (by omega)) (HRq.out.below (hW.mono (by rw [HSZ.out]; omega))) (by have := hW.size; rw [HSZ.out] at this; omega) hyl (Nat.le_refl _) m1 (by unfold maxLen at *; omega) true (by simp)
      have hEp : ∀ W, Below (w6.alloc (.cells #[.string u, .slice (some ⟨g, 0, none⟩) y.length y.length] 24)).heap.size (w6.alloc (.cells #[.string u, .slice (some ⟨g, 0, none⟩) y.length y.length] 24)) W → Calls Try.prog 14 #[progV u A y.length c, progV u (some ⟨g, 0, none⟩) y.length y.length] W fun e w' => e = .returned (.bool true) ∧ Below W.heap.size W w' := fun W hW =>
        eqprog_any u u A (some ⟨g, 0, none⟩) y y c y.length w6.heap.size W ((R4.out.below ((HBP.out.mono (by omega)).trans (hW.mono (by rw [HSZ.out]; omega)))).more (by omega)) (HRq.out.below (hW.mono (by rw [HSZ.out]; omega))) (by have := hW.size; rw [HSZ.out] at this; omega) hyl (Nat.le_refl _) m1 (by unfold maxLen at *; omega) true (by simp)
      unfold progV at hEq hEp
      have HEq := Lib.hid hEq; have HEp := Lib.hid hEp
      have hbc : Below (w6.alloc (.cells #[.string u, .slice (some ⟨g, 0, none⟩) y.length y.length] 24)).heap.size (w6.alloc (.cells #[.string u, .slice (some ⟨g, 0, none⟩) y.length y.length] 24)) (w6.alloc (.cells #[.string u, .slice (some ⟨g, 0, none⟩) y.length y.length] 24)) := Below.refl _ _
      clear hEq hEp hrow hb9 bp hbP hrq hszP q0 q1
      by_cases hneg : at_ < 0
      · clear HO HR4
        go_wp2_with (first
          | (go_at_call 14; refine (HEp.out _ hbc).mono ?_; rintro e w7 ⟨rfl, b7⟩; replace hbc := hbc.trans (b7.mono hbc.size); replace r0 := (hbc.cell (p := ⟨w.heap.size, 0, none⟩) (by rw [HSZ.out]; show w.heap.size < _; omega)).trans Z0.out; replace r1 := (hbc.cell (p := ⟨w.heap.size, 1, none⟩) (by rw [HSZ.out]; show w.heap.size < _; omega)).trans Z1.out; have y0 := (hbc.cell (p := ⟨w6.heap.size, 0, none⟩) (by rw [HSZ.out]; show w6.heap.size < _; omega)).trans X0.out; have y1 := (hbc.cell (p := ⟨w6.heap.size, 1, none⟩) (by rw [HSZ.out]; show w6.heap.size < _; omega)).trans X1.out)
          | (go_at_call 15; refine (HEq.out _ hbc).mono ?_; rintro e w8 ⟨rfl, b8⟩; replace hbc := hbc.trans (b8.mono hbc.size)))
        go_ret
        exact ⟨rfl, hb6.trans ((HBP.out.trans (hbc.mono HBP.out.size)).mono hb6.size)⟩
      · obtain ⟨k, rfl⟩ : ∃ k : Nat, at_ = k := ⟨at_.toNat, by omega⟩
        obtain ⟨j, hjj⟩ : ∃ j, k % l.length = j := ⟨_, rfl⟩
        have hj : j < l.length := by rw [← hjj]; exact Nat.mod_lt _ hpos
        have hmod : (k : Int) % (l.length : Int) = (j : Int) := by rw [← hjj]; simp
        have hla := l.length
        have hlen : ([] : List UInt8).length + l.length ≤ 140737488355328 := by
          have h1 := HL.out
          have : l.length ≤ 65536 := by
            rw [← h1]
            have hf := encB_fits (t := u) (os := y) (by rw [h1]; exact List.length_pos_iff.1 hpos)
            have hf2 := (fitsB_iff _ _).1 hf
            have he : encB u y = encP u.data.toList y := by unfold encB; rw [if_pos hf]
            rw [he]
            have s1 : u.data.toList.length = u.size := rfl
            have := encP_len u.data.toList y (by omega) (by omega) hf2.2.2.2
            omega
          simp; omega
        have HLen := Lib.hid hlen
        obtain ⟨b, hbj⟩ : ∃ b, l[j] = b := ⟨_, rfl⟩
        have HLJ := Lib.hid hbj
        have hxb : ((UInt8.ofNat a.toNat).toNat : Int) = a := byte_back wa
        have hx := b8_xor b (UInt8.ofNat a.toNat)
        rw [hxb] at hx
        have hlj1 : (0 : Int) ≤ (j : Int) := by omega
        have hlj2 : (j : Int) < (l.length : Int) := by omega
        have HJ := Lib.hid hjj
        clear hla hlen hbj hxb hjj hneg
        go_wp2_with (first
          | (go_at_call 14; refine (HEp.out _ hbc).mono ?_; rintro e w7 ⟨rfl, b7⟩; replace hbc := hbc.trans (b7.mono hbc.size); replace r0 := (hbc.cell (p := ⟨w.heap.size, 0, none⟩) (by rw [HSZ.out]; show w.heap.size < _; omega)).trans Z0.out; replace r1 := (hbc.cell (p := ⟨w.heap.size, 1, none⟩) (by rw [HSZ.out]; show w.heap.size < _; omega)).trans Z1.out; have y0 := (hbc.cell (p := ⟨w6.heap.size, 0, none⟩) (by rw [HSZ.out]; show w6.heap.size < _; omega)).trans X0.out; have y1 := (hbc.cell (p := ⟨w6.heap.size, 1, none⟩) (by rw [HSZ.out]; show w6.heap.size < _; omega)).trans X1.out)
          | (go_at_call 15; refine (HEq.out _ hbc).mono ?_; rintro e w8 ⟨rfl, b8⟩; replace hbc := hbc.trans (b8.mono hbc.size); have hbz := HBP.out.trans (hbc.mono HBP.out.size); have rb8 := HR4.out.below hbz; have hs8 := hbz.size; have hs0 : w4.heap.size ≤ w8.heap.size := hs8)
          | (at_builtin; refine wpList_append_bytes rfl (.const (.slice none 0 0)) (.tmp 49) rfl w8.heap.size (.slice none 0 0) [] l rfl (OB.nil _ _) w4.heap.size A4 c4 rfl rb8 HLen.out (Nat.le_refl _) ?_; intro v9 w9 o9 g9 e9; rw [List.nil_append] at o9; obtain ⟨gc, cc, rfl, hgc, hcc, hmc⟩ := o9.some_ hpos; have u1 := o9.cell_at rfl j hj; have u2 := o9.frozen_at rfl j; have HO9 := Lib.hid o9; have hb9 : Below w8.heap.size w8 w9 := (Below.refl _ _).grown g9 (Nat.le_refl _) (by simp [Value.ownBlock]); unfold vb at u1; rw [HLJ.out] at u1; clear o9 g9 e9))
        have ho10 := OB.set HO9.out rfl j (b ^^^ UInt8.ofNat a.toNat)
        have ht := tells_any (some ⟨gc, 0, none⟩) (l.set j (b ^^^ UInt8.ofNat a.toNat)) cc _ _ ho10.cells (Nat.le_refl _) (by rw [List.length_set]; exact hcc) hmc
        rw [List.length_set] at ht
        refine ht.mono ?_
        rintro e w10 ⟨rfl, hb10⟩
        have hbq : Below w.heap.size w (w9.setCell ⟨gc, j, none⟩ (vb (b ^^^ UInt8.ofNat a.toNat))) := (hb6.trans ((hbz.mono hb6.size).trans (hb9.mono (by have := hb6.size; omega)))).setCell (by have := hb6.size; show w.heap.size ≤ gc; omega) _
        go_wp2_with fail
        go_ret
        exact ⟨rfl, hbq.trans (hb10.mono hbq.size)⟩
end Go.Proofs.Ytjjhdbcekkmjfaa
