/- WALKS: the document's Put (ref 13). -/
import Derived.Test.YtomiligjcpmnjaaXh
import Derived.Test.YtomiligjcpmnjaaYk
namespace Go.Proofs.Ytomiligjcpmnjaa
set_option maxRecDepth 100000
open Go.RowKit
set_option linter.unusedVariables false
set_option linter.unusedSimpArgs false

theorem not_row {b N : Nat} {v : Value} (h : ∀ k, v.ownBlock = some k → N ≤ k) (hb : b < N) : some b ≠ v.ownBlock := fun e => by have := h b e.symm; omega
theorem keep3 {w w' : World} {g p b o : Nat} {u y : Value} {B : Nat} (h : w.cell? ⟨g, p, none⟩ = some u ∧ w.cell? ⟨b, o, none⟩ = some y ∧ w.frozen? ⟨g, p, none⟩ = false) (hb : Below B w w') (h1 : g < B) (h2 : b < B) : w'.cell? ⟨g, p, none⟩ = some u ∧ w'.cell? ⟨b, o, none⟩ = some y ∧ w'.frozen? ⟨g, p, none⟩ = false :=
  ⟨(hb.cell (p := ⟨g, p, none⟩) h1).trans h.1, (hb.cell (p := ⟨b, o, none⟩) h2).trans h.2.1, (hb.frozen (p := ⟨g, p, none⟩) h1).trans h.2.2⟩
theorem keepg {w w' : World} {g p b o : Nat} {u y : Value} {row : Option Nat} (h : w.cell? ⟨g, p, none⟩ = some u ∧ w.cell? ⟨b, o, none⟩ = some y ∧ w.frozen? ⟨g, p, none⟩ = false) (gr : w.grownBy w' row) (h1 : some g ≠ row) (h2 : some b ≠ row) : w'.cell? ⟨g, p, none⟩ = some u ∧ w'.cell? ⟨b, o, none⟩ = some y ∧ w'.frozen? ⟨g, p, none⟩ = false :=
  ⟨gr.cell h.1 h1, gr.cell h.2.1 h2, (World.frozen?_of_block (a := ⟨g, p, none⟩) (gr.block g (cell_lt h.1) h1)).trans h.2.2⟩
theorem rput_neg (w : World) (P f X : Value) (z : Int) (hf : f = .int .i64 z) (h0 : z < 0) : Calls Try.prog 24 #[P, f, X] w fun e w' => e = .returned (.tuple #[.int .i64 0, .int .i64 1]) ∧ w = w' := by
  subst hf
  go_enter Try.func24, Try.ntmps24
  go_wp2
  go_ret2
  exact ⟨rfl, rfl⟩
theorem rput_more (w : World) (g p : Nat) (X : Value) (z : Int) (A : Option Addr) (L c : Nat) (hc : w.cell? ⟨g, p, none⟩ = some (.slice A L c)) (h0 : (L : Int) < z) : Calls Try.prog 24 #[.pointer (some ⟨g, p, none⟩), .int .i64 z, X] w fun e w' => e = .returned (.tuple #[.int .i64 0, .int .i64 2]) ∧ w = w' := by
  have h1 : ¬ z < 0 := by omega
  go_enter Try.func24, Try.ntmps24
  go_wp2
  go_ret2
  exact ⟨rfl, rfl⟩
theorem take_more (x : List UInt8) (p c i : Nat) (hi : i < x.length) (h : p + c = i) : (x.drop p).take (c + 1) = (x.drop p).take c ++ [x[i]] := by
  subst h
  rw [List.take_add_one, List.getElem?_drop, List.getElem?_eq_getElem hi]; rfl
set_option maxHeartbeats 4000000 in
theorem rput_in (w : World) (g p : Nat) (cur : Array Value) (v : Value) (l x : List UInt8) (base : Nat) (A : Option Addr) (cap B f p0 L X m n : Nat) (hrow : w.heap[g]? = some (lineO cur)) (hv : cur[p]? = some v) (hob : OB w base v l) (hvg : v.ownBlock ≠ some g) (hx : RB w B A x) (hB : B ≤ base) (hBg : B ≤ g) (hbase : base ≤ w.heap.size)
    (hL : l.length = L) (hX : x.length = X) (hl : L ≤ 1000) (hX12 : X ≤ 1000) (hf : f ≤ L) (hp : min (L - f) X = p0) (hm : X - p0 = m) (hn : min (1000 - L) m = n) :
    Calls Try.prog 24 #[.pointer (some ⟨g, p, none⟩), .int .i64 f, .slice A X cap] w fun e w' => e = .returned (.tuple #[.int .i64 n, .int .i64 (if n < m then 4 else 0)]) ∧ ∃ v', RPut w w' g p cur v v' ∧ OB w' base v' (l ++ (x.drop p0).take n) := by
  have HR0 := Lib.hid (RPut.start hrow hv)
  have HVG := Lib.hid hvg
  have HGW : Hid (g < w.heap.size) := HR0.out.glt
  have HP : Hid (p < cur.size) := (Array.getElem?_eq_some_iff.1 hv).1
  have HOB0 := Lib.hid hob
  have HX0 := Lib.hid hx; have HL := Lib.hid hL; have HX := Lib.hid hX; have HP0 := Lib.hid hp; have HM := Lib.hid hm; have HN := Lib.hid hn
  have HVB := Lib.hid hob.ge
  have HBS0 := Lib.hid hbase; have HBB0 := Lib.hid hB; have HBG0 := Lib.hid hBg
  obtain ⟨A0, c0, rfl, -, -, -⟩ := hob.form_n L hL
  have q0 := HR0.out.cell HP.out
  have f0 : ¬ (L : Int) < (f : Int) := by omega
  clear hrow hv hob hvg hx hL hX hp hm hn hbase hB hBg
  go_enter Try.func24, Try.ntmps24
  go_wp2_with fail
  clear q0
  go_loopw [8, 9] (fun nn ii wr => ∃ (i c : Nat) (v1 : Value), ii = .int .i64 (i : Int) ∧ nn = .int .i64 (c : Int) ∧ i ≤ X ∧ Hid (c = i - (L - f)) ∧ Hid (L + c ≤ 1000) ∧ Hid (RPut w wr g p cur (.slice A0 L c0) v1) ∧ Hid (OB wr base v1 (l ++ (x.drop p0).take c))) (fun _ ii _ => X - (intOf ii).toNat)
  case atStart => exact ⟨0, 0, _, rfl, rfl, by omega, by show _ = _; omega, by show _ ≤ _; omega, HR0, by show OB _ _ _ _; rw [List.take_zero, List.append_nil]; exact HOB0.out⟩
  case round =>
    obtain ⟨i, c, v1, rfl, rfl, hi, hc, hLc, HR, HOB⟩ := hrel
    clear HR0 HOB0
    have hcm : c ≤ m := by have := hc.out; have := HP0.out; have := HM.out; omega
    have hlen : (l ++ (x.drop p0).take c).length = L + c := by
      rw [List.length_append, List.length_take, List.length_drop, HL.out, HX.out]
      have := HM.out; omega
    obtain ⟨LC, hLC⟩ : ∃ LC, L + c = LC := ⟨_, rfl⟩
    rw [hLC] at hlen
    obtain ⟨A1, c1, rfl, -, -, -⟩ := HOB.out.form_n LC hlen
    have q1 := HR.out.cell HP.out
    by_cases hlt : i < X
    · have hiX : (i : Int) < (X : Int) := by omega
      have hk2 : Hid (i + 1 ≤ X) := hlt
      have hms : Hid (X - (i + 1) < X - i) := by show _ < _; omega
      have hLC1 : LC ≤ 1000 := by have := hLc.out; omega
      obtain ⟨d, hd⟩ : ∃ d : Int, (LC : Int) - (f : Int) = d := ⟨_, rfl⟩
      by_cases hs : i < L - f
      · have hid_ : (i : Int) < d := by have := hc.out; omega
        have hd2 : -1000 ≤ d ∧ d ≤ 1000 := by omega
        obtain ⟨hd2, hd3⟩ := hd2
        have HC2 : Hid (c = (i + 1) - (L - f)) := by show _ = _; have := hc.out; omega
        clear hcm hlen hLC
        go_wp2
        go_roundw
        case rel => exact ⟨i + 1, c, _, by go_num, rfl, hk2.out, HC2, hLc, HR, HOB⟩
        case measure => simp [intOf]; have := hms.out; omega
      · obtain rfl : d = (i : Int) := by have := hc.out; omega
        by_cases hfull : 1000 ≤ LC
        · have hfu : (1000 : Int) ≤ (LC : Int) := by omega
          have hcn : c = n := by have := hc.out; have := HP0.out; have := HM.out; have := HN.out; omega
          have hlt2 : n < m := by have := hc.out; have := HP0.out; have := HM.out; have := HN.out; omega
          subst hcn
          have HE := Lib.hid hlt2
          clear hcm hlen hLC hlt2
          go_wp2
          go_ret2
          exact ⟨by first | rfl | (rw [if_pos HE.out]; rfl), _, HR.out, HOB.out⟩
        · have hfu : ¬ (1000 : Int) ≤ (LC : Int) := by omega
          have hb := HR.out.below (B := B) (by have := HBB0.out; have := HBS0.out; omega) HBG0.out (fun k hk => by have := HBB0.out; have := HVB.out k hk; omega)
          obtain ⟨b, off, rfl, hbB, hcell⟩ := HX0.out.below hb (by have := HX.out; omega)
          have q2 := hcell i (by have := HX.out; omega)
          obtain ⟨y, hy⟩ : ∃ y : UInt8, x[i]'(by have := HX.out; omega) = y := ⟨_, rfl⟩
          have hpc : p0 + c = i := by have := hc.out; have := HP0.out; omega
          have htk := take_more x p0 c i (by have := HX.out; omega) hpc
          rw [hy] at q2 htk
          unfold vb at q2
          obtain ⟨yi, hyi⟩ : ∃ yi : Int, (y.toNat : Int) = yi := ⟨_, rfl⟩
          rw [hyi] at q2
          have HY := Lib.hid hyi
          have HTK : Hid ((l ++ (x.drop p0).take c) ++ [y] = l ++ (x.drop p0).take (c + 1)) := by show _ = _; rw [htk, List.append_assoc]
          have HL7 : Hid ((l ++ (x.drop p0).take (c + 1)).length = LC + 1) := by show _ = _; rw [← HTK.out, List.length_append, hlen]; rfl
          have HLEN : Hid ((l ++ (x.drop p0).take c).length + [y].length ≤ 140737488355328) := by show _ ≤ _; rw [hlen]; show LC + 1 ≤ _; omega
          have HG : Hid (g < wr.heap.size) := HR.out.glt
          have HBW : Hid (b < wr.heap.size) := by show _ < _; have := HBB0.out; have := HBS0.out; have := HR.out.size; omega
          have HBS : Hid (base ≤ wr.heap.size) := Nat.le_trans HBS0.out HR.out.size
          have HBB : Hid (b < base) := Nat.lt_of_lt_of_le hbB HBB0.out
          have HNG : Hid (some g ≠ (Value.slice A1 LC c1).ownBlock) := fun e => HR.out.nog HGW.out HVG.out e.symm
          have HC2 : Hid (c + 1 = (i + 1) - (L - f)) := by show _ = _; have := hc.out; omega
          have HLC2 : Hid (L + (c + 1) ≤ 1000) := by show _ ≤ _; omega
          have hi1000 : i ≤ 1000 := by omega
          have hc1000 : c ≤ 1000 := by omega
          have hfz := HR.out.fz
          clear hcm hlen hLC hb hcell hy hyi hpc htk hbB
          go_wp2_with fail
          refine wp_region_J (s := 13) (S := (fun w' => w'.cell? ⟨g, p, none⟩ = some (.slice A1 LC c1) ∧ w'.cell? ⟨b, off + i, none⟩ = some (.int .u8 yi) ∧ w'.frozen? ⟨g, p, none⟩ = false)) (by kernel_rfl) (⟨q1, q2, hfz⟩) (fun hHeld => ?_)
          refine j_take (i := 0) (v := ?_) rfl (by kernel_rfl) (by kernel_rfl) (by kernel_rfl) (by kernel_rfl) (fun _ _ _ h => h) (by rfl) hHeld ?_ ?_
          rotate_left 1
          · (intro w hSw; (try dsimp only at hSw); go_simp; try (with_reducible rfl))
          try simp only [Act.put, List.setIfInBounds_toArray, List.set_cons_zero, List.set_cons_succ]
          refine j_take (i := 1) (v := ?_) rfl (by kernel_rfl) (by kernel_rfl) (by kernel_rfl) (by kernel_rfl) (fun _ _ _ h => h) (by rfl) hHeld ?_ ?_
          rotate_left 1
          · (intro w hSw; (try dsimp only at hSw); go_simp; try (with_reducible rfl))
          try simp only [Act.put, List.setIfInBounds_toArray, List.set_cons_zero, List.set_cons_succ]
          refine j_take (i := 2) (v := ?_) rfl (by kernel_rfl) (by kernel_rfl) (by kernel_rfl) (by kernel_rfl) (fun _ _ _ h => h) (by rfl) hHeld ?_ ?_
          rotate_left 1
          · (intro w hSw; (try dsimp only at hSw); go_simp; try (with_reducible rfl))
          try simp only [Act.put, List.setIfInBounds_toArray, List.set_cons_zero, List.set_cons_succ]
          refine j_take (i := 3) (v := ?_) rfl (by kernel_rfl) (by kernel_rfl) (by kernel_rfl) (by kernel_rfl) (fun _ _ _ h => h) (by rfl) hHeld ?_ ?_
          rotate_left 1
          · (intro w hSw; (try dsimp only at hSw); go_simp; try (with_reducible rfl))
          try simp only [Act.put, List.setIfInBounds_toArray, List.set_cons_zero, List.set_cons_succ]
          refine j_take (i := 4) (v := ?_) rfl (by kernel_rfl) (by kernel_rfl) (by kernel_rfl) (by kernel_rfl) (fun _ _ _ h => h) (by rfl) hHeld ?_ ?_
          rotate_left 1
          · (intro w hSw; (try dsimp only at hSw); go_simp; try (with_reducible rfl))
          try simp only [Act.put, List.setIfInBounds_toArray, List.set_cons_zero, List.set_cons_succ]
          refine j_take (i := 5) (v := ?_) rfl (by kernel_rfl) (by kernel_rfl) (by kernel_rfl) (by kernel_rfl) (fun _ _ _ h => h) (by rfl) hHeld ?_ ?_
          rotate_left 1
          · (intro w hSw; (try dsimp only at hSw); go_simp; try (with_reducible rfl))
          try simp only [Act.put, List.setIfInBounds_toArray, List.set_cons_zero, List.set_cons_succ]
          refine j_take (i := 6) (v := ?_) rfl (by kernel_rfl) (by kernel_rfl) (by kernel_rfl) (by kernel_rfl) (fun _ _ _ h => h) (by rfl) hHeld ?_ ?_
          rotate_left 1
          · (intro w hSw; (try dsimp only at hSw); go_simp; try (with_reducible rfl))
          try simp only [Act.put, List.setIfInBounds_toArray, List.set_cons_zero, List.set_cons_succ]
          refine j_take (i := 7) (v := ?_) rfl (by kernel_rfl) (by kernel_rfl) (by kernel_rfl) (by kernel_rfl) (fun _ _ _ h => h) (by rfl) hHeld ?_ ?_
          rotate_left 1
          · (intro w hSw; (try dsimp only at hSw); go_simp; try (with_reducible rfl))
          try simp only [Act.put, List.setIfInBounds_toArray, List.set_cons_zero, List.set_cons_succ]
          refine j_take (i := 8) (v := ?_) rfl (by kernel_rfl) (by kernel_rfl) (by kernel_rfl) (by kernel_rfl) (fun _ _ _ h => h) (by rfl) hHeld ?_ ?_
          rotate_left 1
          · (intro w hSw; (try dsimp only at hSw); go_simp; try (with_reducible rfl))
          try simp only [Act.put, List.setIfInBounds_toArray, List.set_cons_zero, List.set_cons_succ]
          refine j_one (i := 9) rfl (by kernel_rfl) (by rfl) (fun K hK => ?_)
          refine wp_one (.tmp 49) (by rfl) yi y (by rfl) HY.out ?_
          intro w6 h6 b6 s6
          have hb6 : Below wr.heap.size wr w6 := ⟨b6.os, b6.tape, b6.output, b6.size, b6.block⟩
          refine hK.out _ _ (keep3 hHeld b6 (HG.out) (HBW.out)) (fun hHeld2 => ?_)
          clear hK K hHeld; have hHeld := hHeld2; clear hHeld2
          try simp only [Act.put, List.setIfInBounds_toArray, List.set_cons_zero, List.set_cons_succ]
          refine j_one (i := 10) rfl (by kernel_rfl) (by rfl) (fun K hK => ?_)
          refine wp_append_bytes (.tmp 45) (.tmp 50) (by rfl) base _ (l ++ (x.drop p0).take c) [y] (by rfl) (HOB.out.below hb6 (Nat.le_refl _)) _ _ _ (by rfl) h6.cells (HLEN.out) (Nat.le_trans HBS.out b6.size) ?_
          intro v7 w7 o7 g7 e7
          refine hK.out _ _ (keepg hHeld g7 HNG.out (not_row HOB.out.ge HBB.out)) (fun hHeld2 => ?_)
          clear hK K hHeld; have hHeld := hHeld2; clear hHeld2
          try simp only [Act.put, List.setIfInBounds_toArray, List.set_cons_zero, List.set_cons_succ]
          rw [HTK.out] at o7
          obtain ⟨A7, c7, rfl, -, -, -⟩ := o7.form_n (LC + 1) HL7.out
          have R7 := Lib.hid (HR.out.step HGW.out HVG.out hb6 g7 e7)
          have O7 : Hid (OB (w7.setCell ⟨g, p, none⟩ (.slice A7 (LC + 1) c7)) base (.slice A7 (LC + 1) c7) (l ++ (x.drop p0).take (c + 1))) := o7.same fun k hk => heap_setCell_other _ _ _ _ (fun e => R7.out.nog HGW.out HVG.out (by rw [← (show k = g from e)]; exact hk))
          clear o7 g7 e7 h6 b6 s6 hb6
          refine j_one (i := 11) rfl (by kernel_rfl) (by rfl) (fun K hK => ?_)
          go_simp
          refine hK.out _ _ (hHeld) (fun hHeld2 => ?_)
          clear hK K hHeld; have hHeld := hHeld2; clear hHeld2
          try simp only [Act.put, List.setIfInBounds_toArray, List.set_cons_zero, List.set_cons_succ]
          refine j_one (i := 12) rfl (by kernel_rfl) (by rfl) (fun K hK => ?_)
          go_simp
          refine hK.out _ _ (hHeld) (fun hHeld2 => ?_)
          clear hK K hHeld; have hHeld := hHeld2; clear hHeld2
          try simp only [Act.put, List.setIfInBounds_toArray, List.set_cons_zero, List.set_cons_succ]
          have q4 := hHeld.1
          have f4 := hHeld.2.2
          refine j_last rfl (by kernel_rfl) (by simp) (by kernel_rfl) (by rfl) (fun K hK => ?_)
          go_simp
          refine hK.out _ _ ?_
          go_wp2
          go_roundw
          case rel => exact ⟨i + 1, c + 1, _, by go_num, by go_num, hk2.out, HC2.out, HLC2.out, R7, O7⟩
          case measure => simp [intOf]; have := hms.out; omega
    · obtain rfl : i = X := by omega
      have hcn : c = n := by have := hc.out; have := HP0.out; have := HM.out; have := HN.out; have := hLc.out; omega
      have hge : ¬ n < m := by have := hc.out; have := HP0.out; have := HM.out; have := HN.out; have := hLc.out; omega
      subst hcn
      have HE := Lib.hid hge
      clear hcm hlen hLC hge
      go_wp2
      go_ret2
      exact ⟨by first | rfl | (rw [if_neg HE.out]; rfl), _, HR.out, HOB.out⟩
end Go.Proofs.Ytomiligjcpmnjaa
