/- WALK of the law RunsLong. -/
import Derived.Test.YtifmohdfpfcikaaJl
import Derived.Deep.OwnRows
namespace Go.Proofs.Ytifmohdfpfcikaa
set_option maxRecDepth 100000
open Go.RowKit
set_option linter.unusedVariables false
set_option linter.unusedSimpArgs false

/-- what make lays for k bytes -/
def madeB (k : Nat) : Obj := .cells (madeCells #[.int .u8 0] k) 5
theorem make_b (k : Nat) (hk : k ≤ 3000) (W : World) : (Instr.makeSlice 22 (.int .i64 (k : Int)) (.int .i64 (k : Int))).run Try.prog W = .ok (.slice (some ⟨W.heap.size, 0, none⟩) k k) (W.alloc (madeB k)) :=
  run_make_row' 22 5 (.int .u8 0) 1 Try.underlying22 byte_info rfl .i64 .i64 k (by omega) (by omega) W
theorem ob_made (W : World) (k : Nat) (hk : k ≤ 3000) : OB (W.alloc (madeB k)) W.heap.size (.slice (some ⟨W.heap.size, 0, none⟩) k k) (List.replicate k 0) := by
  have h := World.ownsRow_lit (e := 5) (size := 1) (base := W.heap.size) W (madeCells #[.int .u8 0] k) k (Nat.le_refl _) (by unfold maxLen; omega) (by rw [size_madeCells, Nat.mul_one])
  unfold OB
  rw [List.length_replicate, List.map_replicate]
  have e : (madeCells #[Value.int .u8 0] k).toList = List.replicate k (.int .u8 0) := toList_madeCells_one _ _
  rw [e] at h
  exact h
theorem set_fill (k N : Nat) (x : UInt8) (h : k < N) : (List.replicate k x ++ List.replicate (N - k) 0).set k x = List.replicate (k + 1) x ++ List.replicate (N - (k + 1)) 0 := by
  obtain ⟨m, hm⟩ : ∃ m, N - k = m + 1 := ⟨N - k - 1, by omega⟩
  have h2 : N - (k + 1) = m := by omega
  rw [hm, h2, List.set_append_right _ _ (by simp)]
  simp only [List.length_replicate, Nat.sub_self, List.replicate_succ, List.set_cons_zero]
  rw [← List.replicate_succ, List.replicate_succ', List.append_assoc]
  rfl
theorem groups_all (k : Nat) (x : UInt8) : groups (List.replicate (k + 1) x) = [(k + 1, x)] := by
  have h := groups_run k x [] (fun g r e => by cases e)
  rw [List.append_nil] at h
  exact h
set_option maxHeartbeats 4000000 in
theorem long_law (n xi : Int) (w : World) (b1 : -9223372036854775808 ≤ n) (b2 : n ≤ 9223372036854775807) (x1 : 0 ≤ xi) (x2 : xi ≤ 255) :
    Calls Try.prog 5 #[.int .i64 n, .int .u8 xi] w fun e w' => e = .returned (.bool true) ∧ Below w.heap.size w w' := by
  have HG := Lib.hid begun14_any
  by_cases g1 : n < 1
  · go_enter Try.func5, Try.ntmps5
    go_wp2_with (go_at_call 8; with_reducible refine (HG.out _).mono ?_; rintro e w3 ⟨rfl, hb⟩)
    go_ret
    exact ⟨rfl, hb⟩
  by_cases g2 : 3000 < n
  · go_enter Try.func5, Try.ntmps5
    go_wp2_with (go_at_call 8; with_reducible refine (HG.out _).mono ?_; rintro e w3 ⟨rfl, hb⟩)
    go_ret
    exact ⟨rfl, hb⟩
  obtain ⟨N, rfl⟩ : ∃ N : Nat, n = N := ⟨n.toNat, by omega⟩
  have hN1 : 1 ≤ N := by omega
  have hN2 : N ≤ 3000 := by omega
  obtain ⟨x, hx⟩ : ∃ x : UInt8, (x.toNat : Int) = xi := ⟨UInt8.ofNat xi.toNat, by rw [ofNat_nat _ (by omega)]; omega⟩
  obtain ⟨c, hc⟩ : ∃ c, encG 0 (groups (List.replicate N x)) = c := ⟨_, rfl⟩
  obtain ⟨C, hC⟩ : ∃ C, c.length = C := ⟨_, rfl⟩
  have hce : c = putN (N : Int) ++ [x] := by
    obtain ⟨k, rfl⟩ : ∃ k, N = k + 1 := ⟨N - 1, by omega⟩
    rw [← hc, groups_all]
    show putN ((k + 1 : Nat) : Int) ++ (x ^^^ 0) :: [] = _
    rw [UInt8.xor_zero]
  obtain ⟨t, ht⟩ : ∃ t, str (List.replicate N x) = t := ⟨_, rfl⟩
  have hMK := fun W => make_b N hN2 W
  have hOB := fun W => ob_made W N hN2
  have hcn : cnt (N : Int) 0 (items true c) = .ok (N : Int) := by
    rw [← hc, cnt_of _ (by simp; omega) (N : Int) (by omega), List.length_replicate, if_neg (by omega)]
  have hex : expand 0 (items true c) = List.replicate N x := by rw [← hc]; exact expand_of _ (by simp; omega)
  have HX := Lib.hid hx; have HC := Lib.hid hc; have HCL := Lib.hid hC; have HCE := Lib.hid hce; have HT := Lib.hid ht; have HOB := Lib.hid hOB; have HCN := Lib.hid hcn; have HEX := Lib.hid hex; have HN1 := Lib.hid hN1; have HN2 := Lib.hid hN2
  clear hx hc hC hce ht hOB hcn hex g1 g2
  have g1' : ¬ (N : Int) < 1 := by omega
  have g2' : ¬ (3000 : Int) < (N : Int) := by omega
  have g3' : (0 : Int) ≤ (N : Int) := by omega
  clear hN1 hN2 b1 b2
  go_enter Try.func5, Try.ntmps5
  go_wp2_with (go_at_call 8; with_reducible refine (HG.out _).mono ?_; rintro e w3 ⟨rfl, hb⟩; have HB := Lib.hid hb; have hmk := hMK w3; clear hMK hb)
  have HB1 := Lib.hid (HB.out.alloc HB.out.size (madeB N))
  clear hmk
  go_loopw [7] (fun i wr => ∃ (k : Nat), i = .int .i64 (k : Int) ∧ k ≤ N ∧ Hid (OB wr w3.heap.size (.slice (some ⟨w3.heap.size, 0, none⟩) N N) (List.replicate k x ++ List.replicate (N - k) 0)) ∧ Hid (Below w.heap.size w wr)) (fun i _ => N - (intOf i).toNat)
  case atStart => exact ⟨0, rfl, by omega, by show OB _ _ _ _; rw [List.replicate_zero, List.nil_append, Nat.sub_zero]; exact HOB.out w3, HB1⟩
  case round =>
    obtain ⟨k, rfl, hk, ho, hb⟩ := hrel
    clear HB1
    have hlen : (List.replicate k x ++ List.replicate (N - k) 0).length = N := by simp; omega
    by_cases hlt : k < N
    · have c1 := ho.out.cell_at hlen k (by rw [hlen]; exact hlt)
      have f1 := ho.out.frozen_at hlen k
      have o2 := ho.out.set hlen k x
      unfold vb at c1 o2
      rw [HX.out, set_fill k N x hlt] at o2
      obtain ⟨y, hy⟩ : ∃ y : Value, Value.int .u8 (((List.replicate k x ++ List.replicate (N - k) 0)[k]'(by rw [hlen]; exact hlt)).toNat : Int) = y := ⟨_, rfl⟩
      obtain ⟨yi, hyi⟩ : ∃ yi : Int, (((List.replicate k x ++ List.replicate (N - k) 0)[k]'(by rw [hlen]; exact hlt)).toNat : Int) = yi := ⟨_, rfl⟩
      rw [hyi] at c1
      have O2 := Lib.hid o2
      have HB2 := Lib.hid (hb.out.setCell (p := ⟨w3.heap.size, k, none⟩) HB.out.size (.int .u8 xi))
      have hkn : (k : Int) < (N : Int) := by omega
      have hk2 : Hid (k + 1 ≤ N) := hlt
      have hms : Hid (N - (k + 1) < N - k) := by show _ < _; omega
      clear o2 hy y hyi hlen
      go_wp2
      go_roundw
      case rel => exact ⟨k + 1, by go_num, hk2.out, O2, HB2⟩
      case measure => simp [intOf]; have := hms.out; omega
    · obtain rfl : k = N := by omega
      rw [Nat.sub_self, List.replicate_zero, List.append_nil] at ho
      have hr := ho.out.cells
      have hr2 : RB wr wr.heap.size (some ⟨w3.heap.size, 0, none⟩) (List.replicate k x) := hr
      have hE := encode_any (some ⟨w3.heap.size, 0, none⟩) (List.replicate k x) k k 0 wr hr2 (by simp) (Nat.le_refl _) (by unfold maxLen; have := HN2.out; omega) (by have := HN2.out; omega)
      have HE := Lib.hid hE; have HRR := Lib.hid hr2
      clear hE hr hr2 hlen ho hlt
      by_cases h63 : k ≤ 63
      · have hC2 : C = 2 := by
          have h1 := congrArg List.length HCE.out
          rw [HCL.out, List.length_append] at h1
          have h2 : (putN (k : Int)).length = 1 := by rw [putN_small k (by omega)]; rfl
          rw [h2] at h1
          exact h1
        subst hC2
        have hci : ∀ h : 1 < c.length, c[1] = x := fun h => by
          have h2 : (putN (k : Int)).length = 1 := by rw [putN_small k (by omega)]; rfl
          have h3 := HCE.out
          subst h3
          rw [List.getElem_append_right (by omega)]
          simp [h2]
        have HCI := Lib.hid hci
        have h63' : ¬ (63 : Int) < (k : Int) := by omega
        clear hci
        go_wp2_with fail
        (with_reducible refine HE.out.mono ?_)
        rintro e w4 ⟨v, rfl, ho4, hb4⟩
        rw [HC.out] at ho4
        obtain ⟨g4, c4, rfl, hg4, hc4, hm4⟩ := ho4.some_ (by rw [HCL.out]; omega)
        rw [HCL.out] at ho4 hc4 ⊢
        have q1 := ho4.cell_at HCL.out 1 (by rw [HCL.out]; omega)
        rw [HCI.out (by rw [HCL.out]; omega)] at q1
        unfold vb at q1
        rw [HX.out] at q1
        have hlow := ho4.low g4 rfl
        have hr4 : RB w4 w4.heap.size (some ⟨g4, 0, none⟩) c := ho4.cells
        have hD := dec_any (some ⟨g4, 0, none⟩) c 2 c4 (k : Int) (k : Int) w4 (.inr ⟨by omega, rfl⟩) (by have := HN2.out; omega) hr4 HCL.out hc4 hm4 (by omega) (fun t h => by
          rw [HCN.out] at h
          have h2 := Cnt.ok.inj h
          have := HN2.out
          omega)
        rw [HCN.out, HEX.out] at hD
        have HD : Hid (Calls Try.prog 12 #[.slice (some ⟨g4, 0, none⟩) 2 c4, .int .i64 (k : Int)] w4 fun e w' => (∃ v, e = .returned (.tuple #[v, .int .i64 0]) ∧ OB w' w4.heap.size v (List.replicate k x)) ∧ Below w4.heap.size w4 w') := hD
        have HB4 := Lib.hid (hb.out.trans (hb4.mono hb.out.size))
        have HR3 := Lib.hid (HRR.out.next hb4)
        have HQ1 := Lib.hid q1; have HLOW := Lib.hid hlow
        clear hD ho4 hb4 hr4 q1 hlow hm4 hg4 HE
        go_wp2_with fail
        (with_reducible refine HD.out.mono ?_)
        rintro e w5 ⟨⟨v5, rfl, ho5⟩, hb5⟩
        obtain ⟨A5, c5, rfl, -, -, hr5⟩ := ho5.form_n k (by simp)
        have p1 : (convert 22 9 (.slice A5 k c5)).run Try.prog w5 = .ok (.string t) w5 := by rw [← HT.out]; exact conv_rb hr5 k c5 (by simp)
        have p2 : (convert 22 9 (.slice (some ⟨w3.heap.size, 0, none⟩) k k)).run Try.prog w5 = .ok (.string t) w5 := by rw [← HT.out]; exact conv_rb (HR3.out.next hb5) k k (by simp)
        have q2 := (hb5.cell (p := ⟨g4, 1, none⟩) HLOW.out).trans HQ1.out
        have HB5 := Lib.hid (HB4.out.trans (hb5.mono HB4.out.size))
        clear hb5 ho5 hr5 HD
        go_wp2
        go_ret
        exact ⟨rfl, HB5.out⟩
      · have hC2 : C = 3 := by
          have h1 := congrArg List.length HCE.out
          rw [HCL.out, List.length_append] at h1
          have h2 : (putN (k : Int)).length = 2 := by exact putN_mid k (by omega) HN2.out
          rw [h2] at h1
          exact h1
        subst hC2
        have hci : ∀ h : 2 < c.length, c[2] = x := fun h => by
          have h2 : (putN (k : Int)).length = 2 := by exact putN_mid k (by omega) HN2.out
          have h3 := HCE.out
          subst h3
          rw [List.getElem_append_right (by omega)]
          simp [h2]
        have HCI := Lib.hid hci
        have h63' : (63 : Int) < (k : Int) := by omega
        clear hci
        go_wp2_with fail
        (with_reducible refine HE.out.mono ?_)
        rintro e w4 ⟨v, rfl, ho4, hb4⟩
        rw [HC.out] at ho4
        obtain ⟨g4, c4, rfl, hg4, hc4, hm4⟩ := ho4.some_ (by rw [HCL.out]; omega)
        rw [HCL.out] at ho4 hc4 ⊢
        have q1 := ho4.cell_at HCL.out 2 (by rw [HCL.out]; omega)
        rw [HCI.out (by rw [HCL.out]; omega)] at q1
        unfold vb at q1
        rw [HX.out] at q1
        have hlow := ho4.low g4 rfl
        have hr4 : RB w4 w4.heap.size (some ⟨g4, 0, none⟩) c := ho4.cells
        have hD := dec_any (some ⟨g4, 0, none⟩) c 3 c4 (k : Int) (k : Int) w4 (.inr ⟨by omega, rfl⟩) (by have := HN2.out; omega) hr4 HCL.out hc4 hm4 (by omega) (fun t h => by
          rw [HCN.out] at h
          have h2 := Cnt.ok.inj h
          have := HN2.out
          omega)
        rw [HCN.out, HEX.out] at hD
        have HD : Hid (Calls Try.prog 12 #[.slice (some ⟨g4, 0, none⟩) 3 c4, .int .i64 (k : Int)] w4 fun e w' => (∃ v, e = .returned (.tuple #[v, .int .i64 0]) ∧ OB w' w4.heap.size v (List.replicate k x)) ∧ Below w4.heap.size w4 w') := hD
        have HB4 := Lib.hid (hb.out.trans (hb4.mono hb.out.size))
        have HR3 := Lib.hid (HRR.out.next hb4)
        have HQ1 := Lib.hid q1; have HLOW := Lib.hid hlow
        clear hD ho4 hb4 hr4 q1 hlow hm4 hg4 HE
        go_wp2_with fail
        (with_reducible refine HD.out.mono ?_)
        rintro e w5 ⟨⟨v5, rfl, ho5⟩, hb5⟩
        obtain ⟨A5, c5, rfl, -, -, hr5⟩ := ho5.form_n k (by simp)
        have p1 : (convert 22 9 (.slice A5 k c5)).run Try.prog w5 = .ok (.string t) w5 := by rw [← HT.out]; exact conv_rb hr5 k c5 (by simp)
        have p2 : (convert 22 9 (.slice (some ⟨w3.heap.size, 0, none⟩) k k)).run Try.prog w5 = .ok (.string t) w5 := by rw [← HT.out]; exact conv_rb (HR3.out.next hb5) k k (by simp)
        have q2 := (hb5.cell (p := ⟨g4, 2, none⟩) HLOW.out).trans HQ1.out
        have HB5 := Lib.hid (HB4.out.trans (hb5.mono HB4.out.size))
        clear hb5 ho5 hr5 HD
        go_wp2
        go_ret
        exact ⟨rfl, HB5.out⟩
end Go.Proofs.Ytifmohdfpfcikaa
