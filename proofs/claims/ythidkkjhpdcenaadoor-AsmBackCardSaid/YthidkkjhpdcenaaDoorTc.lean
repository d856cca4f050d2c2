/- WALK of quintainref1.Parse. -/
import Derived.Test.YthidkkjhpdcenaaDoorTb
import Derived.Deep.CutBlock
import Derived.Deep.DeepCutAuto
import Derived.Outline
namespace Go.Proofs.YthidkkjhpdcenaaDoor
set_option maxRecDepth 100000
open Go.RowKit
set_option linter.unusedVariables false

/-! ### plain -/
/-- the first line's end -/
def lineEnd (r : ByteArray) (a : Nat) : Prop := a ≤ r.size ∧ (∀ c ∈ (lst r).take a, c ≠ 10) ∧ ∀ h : a < r.size, (r[a]'h).toNat = 10
theorem lst_back (r : ByteArray) (k : Nat) : lst (r.extract k r.size) = (lst r).drop k := by
  rw [lst_extract, List.take_of_length_le (by rw [lst_len]; exact Nat.le_refl _)]
/-- a line read: wrong, or the rest goes on behind it -/
theorem line_go {r : ByteArray} {a m : Nat} (ha : lineEnd r a) (hm : m = min r.size (a + 1)) (t : List UInt8) (os : List O4) (n : Nat) :
    (addL t os (bareL ((lst r).take a)) = none → pgo t os n [] (lst r) = .bad n) ∧
      (∀ t' os', addL t os (bareL ((lst r).take a)) = some (t', os') → pgo t os n [] (lst r) = pgo t' os' (n + 1) [] (lst (r.extract m r.size))) := by
  obtain ⟨h1, h2, h3⟩ := ha
  by_cases hlt : a < r.size
  · have hb : (r[a]'hlt) = 10 := UInt8.toNat_inj.1 (h3 hlt)
    have e : lst r = (lst r).take a ++ 10 :: (lst r).drop (a + 1) := by
      have e4 := lst_drop r a hlt
      rw [hb] at e4
      rw [← e4, List.take_append_drop]
    have hm2 : m = a + 1 := by omega
    refine ⟨fun hn => ?_, fun t' os' hs => ?_⟩
    · conv => lhs; rw [e]
      exact pgo_line_bad t os n _ _ h2 hn
    · conv => lhs; rw [e]
      rw [pgo_line t t' os os' n _ _ h2 hs, lst_back, hm2]
  · obtain rfl : a = r.size := by omega
    have hm2 : m = r.size := by omega
    have e : (lst r).take r.size = lst r := List.take_of_length_le (by rw [lst_len]; exact Nat.le_refl _)
    rw [e] at h2 ⊢
    refine ⟨fun hn => pgo_last_bad t os n _ h2 hn, fun t' os' hs => ?_⟩
    have e2 : lst (r.extract m r.size) = [] := by rw [lst_back, hm2]; exact List.drop_eq_nil_of_le (by rw [lst_len]; exact Nat.le_refl _)
    rw [pgo_last t t' os os' n _ h2 hs, e2, pgo_done]
theorem bareL_drop (l : List UInt8) (k : Nat) : bareL ((bareL l).drop k) = trimL ((bareL l).drop k) := by
  have h1 : ∀ c ∈ (bareL l).drop k, c ≠ 35 := fun c hc => bareL_mem (List.mem_of_mem_drop hc)
  have h2 : trimR ((bareL l).drop k) = (bareL l).drop k := trimR_end ((bareL l).take k) _ (by rw [List.take_append_drop]; exact bareL_right l)
  show trimL (trimR (noHash ((bareL l).drop k))) = _
  rw [noHash_of h1, h2]
/-- the title's line, as the document's side asks -/
theorem titleL_no (y : List UInt8) (h : y.length ≤ 5 ∨ y.take 5 ≠ titleP ∨ ∃ h5 : 5 < y.length, blk (y[5]'h5) = false) : titleL y = none := by
  unfold titleL
  rw [if_neg]
  rintro ⟨h1, h2, h3⟩
  rcases h with h | h | ⟨h5, h⟩
  · exact h2 (by rw [List.drop_eq_nil_of_le h]; rfl)
  · exact h h1
  · refine h2 ?_
    rw [List.drop_eq_getElem_cons h5]
    exact trimL_cons _ _ h
theorem titleL_yes (l : List UInt8) (h5 : 5 < (bareL l).length) (h1 : (bareL l).take 5 = titleP) (hb : blk ((bareL l)[5]'h5) = true) :
    titleL (bareL l) = if titB (str (bareL ((bareL l).drop 6))) = true then some (bareL ((bareL l).drop 6)) else none := by
  have e : trimL ((bareL l).drop 5) = bareL ((bareL l).drop 6) := by
    rw [bareL_drop, List.drop_eq_getElem_cons h5, trimL_blk _ _ hb]
  have hne : trimL ((bareL l).drop 5) ≠ (bareL l).drop 5 := by
    intro h
    have := trimL_head h (List.drop_eq_getElem_cons h5)
    rw [hb] at this
    cases this
  unfold titleL
  rw [e] at hne ⊢
  by_cases ht : titB (str (bareL ((bareL l).drop 6))) = true
  · rw [if_pos ⟨h1, hne, ht⟩, if_pos ht]
  · rw [if_neg (fun h => ht h.2.2), if_neg ht]


theorem lst_at (Y : ByteArray) (k : Nat) (h : k < Y.size) (h' : k < (lst Y).length) : (lst Y)[k]'h' = Y[k]'h := by
  have e := lst_drop Y k h
  rw [List.drop_eq_getElem_cons h'] at e
  exact (List.cons.inj e).1
theorem titleL_noY (Y : ByteArray) (h : Y.size ≤ 5 ∨ (lst Y).take 5 ≠ titleP ∨ ∃ h5 : 5 < Y.size, blk (Y[5]'h5) = false) : titleL (lst Y) = none := by
  refine titleL_no _ ?_
  rcases h with h | h | ⟨h5, h⟩
  · exact .inl (by rw [lst_len]; exact h)
  · exact .inr (.inl h)
  · exact .inr (.inr ⟨by rw [lst_len]; exact h5, by rw [lst_at Y 5 h5]; exact h⟩)
theorem titleL_yesY (l : List UInt8) (Y : ByteArray) (hY : lst Y = bareL l) (h5 : 5 < Y.size) (h1 : (lst Y).take 5 = titleP) (hb : blk (Y[5]'h5) = true) :
    titleL (lst Y) = if titB (str (bareL ((lst Y).drop 6))) = true then some (bareL ((lst Y).drop 6)) else none := by
  have h5' : 5 < (lst Y).length := by rw [lst_len]; exact h5
  have hb' : blk ((lst Y)[5]'h5') = true := by rw [lst_at Y 5 h5]; exact hb
  generalize lst Y = y at *
  subst hY
  exact titleL_yes l h5' h1 hb'
theorem addL_t (os : List O4) (y : List UInt8) (hy : y ≠ []) : addL [] os y = (titleL y).map fun t' => (t', os) := by
  unfold addL; rw [if_neg hy, if_pos rfl]
theorem addL_o (t : List UInt8) (ht : t ≠ []) (os : List O4) (y : List UInt8) (hy : y ≠ []) : addL t os y = if os.length < 64 then (readW (wordsL [] y)).map fun o => (t, os ++ [o]) else none := by
  unfold addL; rw [if_neg hy, if_neg ht]
theorem str_nz {l : List UInt8} (h : l ≠ []) : (str l).toList.isEmpty = false := by
  rw [str_toList]
  cases l with
  | nil => exact absurd rfl h
  | cons c l => rfl
theorem str_z {l : List UInt8} (h : l = []) : (str l).toList.isEmpty = true := by rw [str_toList, h]; rfl
theorem Parsed.bad1 {l : List UInt8} {n : Nat} {w w' : World} (h : parseL l = .bad (n + 1)) (hb : Below w.heap.size w w') : Parsed l w (.returned (.tuple #[.agg #[.string ⟨#[]⟩, .slice none 0 0], .int .i64 ((n : Int) + 1), .int .i64 1])) w' :=
  Parsed.bad h hb
/-- Words of the document's side, its list's length under a name. -/
theorem refwords_sl (s : ByteArray) (m : Nat) (hm : (wrds s).length = m) (w : World) (hs : s.size ≤ 1000000) :
    Calls Tryd.prog 25 #[.string s] w fun e w' => ∃ A c, e = .returned (.slice A m c) ∧ RS w' w'.heap.size A (wrds s) ∧ m ≤ c ∧ c ≤ maxLen ∧ Below w.heap.size w w' := by
  refine (refwords_any s w (by omega)).mono ?_
  rintro e w' ⟨v, rfl, hown, hb⟩
  rw [hm] at hown
  obtain ⟨A, c, rfl⟩ := own_form hown
  obtain ⟨h1, h2⟩ := own_cap hown
  exact ⟨A, c, rfl, RS.own hown hm, h1, h2, hb⟩
theorem new4 (w : World) (o : O4) : RO (w.alloc (oObj o)) (w.alloc (oObj o)).heap.size (some ⟨w.heap.size, 0, none⟩) [o] := new_op w o

theorem title_nil : titB ⟨#[]⟩ = false := by decide +kernel
theorem ext5_of (Y : ByteArray) (b : Bool) (h : b = true ↔ (lst Y).take 5 = titleP) : ((Y.extract 0 5).toList == [116, 105, 116, 108, 101]) = b := by
  have e1 : (Y.extract 0 5).toList = (lst Y).take 5 := by rw [Lib.toList_data]; exact lst_front Y 5
  rw [e1, Bool.eq_iff_iff, h, beq_iff_eq]
  exact Iff.rfl
theorem RefOp.form {l : List (List UInt8)} {w w' : World} {e : Ending} (h : RefOp l w e w') : ∃ (o : O4) (b : Bool), e = .returned (.tuple #[.agg #[.int .i64 o.k, .int .i64 o.a, .int .i64 o.b, .int .i64 o.c], .bool b]) ∧ Below w.heap.size w w' ∧ (b = true → readW l = some o) ∧ (b = false → readW l = none) := h
set_option maxHeartbeats 4000000 in
theorem refparse_any (s : ByteArray) (w : World) (hs : s.size ≤ 100000) :
    Calls Tryd.prog 12 #[.string s] w (Parsed (lst s) w) := by
  obtain ⟨W0, hW0⟩ : ∃ W0, W0 = (w.alloc (.cells #[.string ⟨#[]⟩, .slice none 0 0] 26)).alloc (.cells #[.string ⟨#[]⟩, .slice none 0 0] 26) := ⟨_, rfl⟩
  have z1 : W0.rowIs w.heap.size 26 2 (progF [] (.slice none 0 0)) := by rw [hW0]; exact (zeroP w).alloc _
  have z2 : W0.rowIs (w.heap.size + 1) 26 2 (progF [] (.slice none 0 0)) := by
    have := zeroP (w.alloc (.cells #[.string ⟨#[]⟩, .slice none 0 0] 26))
    rw [World.size_alloc] at this
    rw [hW0]; exact this
  have hz0 : w.heap.size + 2 ≤ W0.heap.size := by rw [hW0]; simp
  have b0 : Below w.heap.size w W0 := by rw [hW0]; exact ((Below.refl _ _).alloc (Nat.le_refl _) _).alloc (by simp) _
  have Z1 := Lib.hid z1; have Z2 := Lib.hid z2; clear z1 z2
  go_enter Tryd.func12, Tryd.ntmps12
  go_wp2_with fail
  rw [← hW0]
  have HW := Lib.hid hW0; clear hW0
  go_loopw [0, 6] (fun sv nv wr => ∃ (r : ByteArray) (n : Nat) (t : List UInt8) (os : List O4) (v : Value), sv = .string r ∧ nv = .int .i64 n ∧ n + r.size ≤ s.size ∧ os.length ≤ 64 ∧
      Hid (wr.rowIs w.heap.size 26 2 (progF [] (.slice none 0 0))) ∧ Hid (wr.rowIs (w.heap.size + 1) 26 2 (progF t v)) ∧ Hid (OO wr (w.heap.size + 2) v os) ∧ Hid (pgo t os (n + 1) [] (lst r) = parseL (lst s)) ∧ Hid (t = [] → os = []) ∧ Below w.heap.size w wr ∧ w.heap.size + 2 ≤ wr.heap.size) (fun sv _ _ => match sv with | .string r => r.size | _ => 0)
  case atStart => exact ⟨s, 0, [], [], .slice none 0 0, rfl, rfl, by omega, by simp, Z1, Z2, OO.nil _ _, rfl, fun _ => rfl, b0, hz0⟩
  case round =>
    obtain ⟨r, n, t, os, v, rfl, rfl, hn, hl, R1, R2, HO, HP, HT0, hb, hsz⟩ := hrel
    clear Z1 Z2 b0 hz0
    by_cases h : 0 < r.size
    · have h' : (0 : Int) < (r.size : Int) := by omega
      have hr5 : r.size ≤ 100000 := by omega
      go_upto_block 2 with fail
      go_cut [7] from 17 to 28 (fun s7 wx => ∃ a : Nat, s7 = .int .i64 a ∧ Hid (lineEnd r a) ∧ a ≤ r.size ∧ wx = wr)
      case first =>
        go_wp2_with fail
        go_loop [7] (fun iv => ∃ a : Nat, iv = .int .i64 a ∧ a ≤ r.size ∧ Hid (∀ c ∈ (lst r).take a, c ≠ 10)) (fun iv => r.size - (intOf iv).toNat)
        case atStart => exact ⟨0, rfl, by omega, by unfold Hid; simp⟩
        case round =>
          obtain ⟨a, rfl, ha, HA⟩ := hrel
          by_cases hlt : a < r.size
          · have hlt' : (a : Int) < (r.size : Int) := by omega
            by_cases hc : (r[a]'hlt).toNat = 10
            · have hq : (((r[a]'hlt).toNat : Int) != 10) = false := by rw [hc]; rfl
              have HE := Lib.hid (show lineEnd r a from ⟨ha, HA.out, fun _ => hc⟩)
              clear hc HA
              go_wp2
              go_meet
              exact ⟨a, rfl, HE, ha, rfl⟩
            · have hq : (((r[a]'hlt).toNat : Int) != 10) = true := by rw [bne_iff_ne]; omega
              have HN := Lib.hid (show ∀ c ∈ (lst r).take (a + 1), c ≠ 10 from mem_take_more r a 1 10 (by omega) HA.out (fun j hj => by
                obtain rfl : j = 0 := by omega
                rw [Nat.add_zero, get!_at r a hlt]; exact hc))
              clear hc HA
              go_wp2
              go_round
              case rel => exact ⟨a + 1, by go_num, by omega, HN⟩
              case measure => simp [intOf]; omega
          · have hlt' : ¬ (a : Int) < (r.size : Int) := by omega
            have HE := Lib.hid (show lineEnd r a from ⟨ha, HA.out, fun h9 => absurd h9 hlt⟩)
            clear HA
            go_wp2
            go_meet
            exact ⟨a, rfl, HE, ha, rfl⟩
      case rest =>
        obtain ⟨a, rfl, HE, ha, rfl⟩ := hcut
        obtain ⟨m, hm⟩ : ∃ m, m = min r.size (a + 1) := ⟨_, rfl⟩
        have hmi : min (r.size : Int) ((a : Int) + 1) = (m : Int) := by omega
        have hm1 : m ≤ r.size := by omega
        have hm0 : 0 < m := by omega
        have hm2 : (m : Int) ≤ (r.size : Int) := by omega
        have ha2 : (a : Int) ≤ (r.size : Int) := by omega
        have HLB := Lib.hid (fun t' os' => (line_go HE.out hm t os (n + 1)).2 t' os')
        have HLA := Lib.hid (line_go HE.out hm t os (n + 1)).1
        have HTR := Lib.hid (fun W => trim_any (r.extract 0 a) W (by rw [ByteArray.size_extract]; unfold maxLen; omega))
        rw [show lst (r.extract 0 a) = (lst r).take a from lst_front r a] at HTR
        obtain ⟨x, hx⟩ : ∃ x, x = (lst r).take a := ⟨_, rfl⟩
        have hxl : x.length ≤ 100000 := by rw [hx, List.length_take, lst_len]; omega
        rw [← hx] at HLA HLB HTR
        have hrs : (r.extract m r.size).size = r.size - m := by rw [ByteArray.size_extract]; omega
        obtain ⟨r', hr'⟩ : ∃ r', r' = r.extract m r.size := ⟨_, rfl⟩
        rw [← hr'] at HLB hrs
        have HR' := Lib.hid hr'
        obtain ⟨y, hy⟩ : ∃ y, y = bareL x := ⟨_, rfl⟩
        rw [← hy] at HLA HLB HTR
        have hyl : y.length ≤ 100000 := by rw [hy]; have := bareL_len x; omega
        have hyt : trimL y = y := by rw [hy]; exact bareL_left x
        obtain ⟨Y, hY⟩ : ∃ Y, Y = str y := ⟨_, rfl⟩
        have hYl : lst Y = y := by rw [hY, lst_str]
        have hYs : Y.size ≤ 100000 := by rw [hY, str_size]; exact hyl
        rw [← hY] at HTR
        have HYY := Lib.hid hY; have HX := Lib.hid hx; have HYx := Lib.hid hy
        clear hr' hx hy hY hm
        by_cases hye : y = []
        · have hq : Y.toList.isEmpty = true := by rw [HYY.out]; exact str_z hye
          have HPN := Lib.hid (HLB.out t os (by rw [hye]; exact addL_nil t os))
          clear HLA HLB hye hyt hYl
          go_wp2_with fail
          refine (HTR.out _).mono ?_
          rintro e w1 ⟨rfl, rfl⟩
          go_wp2
          go_roundw
          case rel => exact ⟨r', n + 1, t, os, v, by rw [HR'.out], by go_num, by omega, hl, R1, R2, HO, by unfold Hid; rw [← HP.out, HPN.out], HT0, hb, hsz⟩
          case measure => simp only [← HR'.out]; omega
        · have hq : Y.toList.isEmpty = false := by rw [HYY.out]; exact str_nz hye
          have c0 := R1.out.cell (show 0 < 2 by omega); have c1 := R1.out.cell (show 1 < 2 by omega)
          have f0 := R1.out.frozen 0; have f1 := R1.out.frozen 1
          have d0 := R2.out.cell (show 0 < 2 by omega); have d1 := R2.out.cell (show 1 < 2 by omega)
          have k0 := R2.out.frozen 0; have k1 := R2.out.frozen 1
          unfold progF at c0 c1 d0 d1
          simp only [if_true, if_neg (show ¬ (1 : Nat) = 0 by omega)] at c0 c1 d0 d1
          by_cases ht : t = []
          · have hqt : (str t).toList.isEmpty = true := str_z ht
            have hos := HT0.out ht
            have hadd := addL_t os y hye
            rw [← ht] at hadd
            clear c0 c1 f0 f1 d1 k1
            by_cases hyes : ∃ h5 : 5 < Y.size, (lst Y).take 5 = titleP ∧ blk (Y[5]'h5) = true
            · obtain ⟨h5, hp5, hb5⟩ := hyes
              have h5' : (Y.size : Int) > 5 := by omega
              have hex := ext5_of Y true (by simp [hp5])
              have HBL := Lib.hid (fun W => blank_any (Y[5]'h5) W)
              rw [hb5] at HBL
              obtain ⟨tt, htt⟩ : ∃ tt, tt = bareL (y.drop 6) := ⟨_, rfl⟩
              have hyt2 := titleL_yesY x Y (by rw [hYl, HYx.out]) h5 hp5 hb5
              rw [hYl, ← htt] at hyt2
              have HT6 := Lib.hid (fun W => trim_any (Y.extract 6 Y.size) W (by rw [ByteArray.size_extract]; unfold maxLen; omega))
              rw [lst_back, hYl, ← htt] at HT6
              have hts : (str tt).size ≤ 100000 := by rw [str_size, htt]; have := bareL_len (y.drop 6); rw [List.length_drop] at this; omega
              have HTI := Lib.hid (fun W => reftitle_any (str tt) W (by omega))
              have h6' : (6 : Int) ≤ (Y.size : Int) := by omega
              cases htb : titB (str tt) with
              | true =>
                have HPN := Lib.hid (HLB.out tt os (by rw [hadd, hyt2, htb]; rfl))
                rw [htb] at HTI
                clear HLA HLB hye hyt hYl hadd hyt2 hp5 hb5 htt htb ht hts HYx
                go_wp2_with fail
                refine (HTR.out _).mono ?_
                rintro e w1 ⟨rfl, rfl⟩
                go_wp2_with fail
                refine (HBL.out _).mono ?_
                rintro e w1 ⟨rfl, rfl⟩
                go_wp2_with fail
                refine (HT6.out _).mono ?_
                rintro e w1 ⟨rfl, rfl⟩
                go_wp2_with fail
                refine (HTI.out _).mono ?_
                rintro e w3 ⟨rfl, hb3⟩
                have g0 := (hb3.cell (p := ⟨w.heap.size + 1, 0, none⟩) (show w.heap.size + 1 < _ by omega)).trans d0
                have gf := (hb3.frozen (p := ⟨w.heap.size + 1, 0, none⟩) (show w.heap.size + 1 < _ by omega)).trans k0
                have hs3 := Nat.le_trans hsz hb3.size
                have HB3 := Lib.hid hb3
                clear hb3
                go_wp2
                go_roundw
                case rel =>
                  have hb3 := HB3.out
                  refine ⟨r', n + 1, tt, os, v, by rw [HR'.out], by go_num, by omega, hl, (rowIs_below R1.out hb3 (by omega)).setOther (by simp) _, ((rowIs_below R2.out hb3 (by omega)).set 0 _).congr (fun i hi => ?_), ownsRow_setCell_below (HO.out.below hb3 (Nat.le_refl _)) (by simp) _, by unfold Hid; rw [← HP.out, HPN.out], fun _ => hos, (hb.trans (hb3.mono hb.size)).setCell (by simp) _, by simpa using hs3⟩
                  obtain rfl | rfl : i = 0 ∨ i = 1 := by omega
                  all_goals rfl
                case measure => simp only [← HR'.out]; omega
              | false =>
                have HPB := Lib.hid (show parseL (lst s) = .bad (n + 1) by rw [← HP.out]; exact HLA.out (by rw [hadd, hyt2, htb]; rfl))
                rw [htb] at HTI
                clear HLA HLB hye hyt hYl hadd hyt2 hp5 hb5 htt htb ht hts HYx k0
                go_wp2_with fail
                refine (HTR.out _).mono ?_
                rintro e w1 ⟨rfl, rfl⟩
                go_wp2_with fail
                refine (HBL.out _).mono ?_
                rintro e w1 ⟨rfl, rfl⟩
                go_wp2_with fail
                refine (HT6.out _).mono ?_
                rintro e w1 ⟨rfl, rfl⟩
                go_wp2_with fail
                refine (HTI.out _).mono ?_
                rintro e w3 ⟨rfl, hb3⟩
                have hbz := hb.trans (hb3.mono hb.size)
                have rz := rowIs_below R1.out hb3 (by omega)
                have c0 : w3.cell? ⟨w.heap.size, 0, none⟩ = some (.string ⟨#[]⟩) := rz.cell (show 0 < 2 by omega)
                have c1 : w3.cell? ⟨w.heap.size, 1, none⟩ = some (.slice none 0 0) := rz.cell (show 1 < 2 by omega)
                have f0 := rz.frozen 0; have f1 := rz.frozen 1
                clear rz hb3
                go_wp2
                refine bodyPost_ret (v := .tuple #[.agg #[.string ⟨#[]⟩, .slice none 0 0], .int .i64 ((n : Int) + 1), .int .i64 1]) (by simp [results, Tryd.results12, go_sem, c0, c1]) rfl ?_
                refine Parsed.bad1 HPB.out ?_
                first | exact hbz | ((repeat (refine Below.setCell ?_ (by simp) _)); exact hbz)
            · have HPB := Lib.hid (show parseL (lst s) = .bad (n + 1) by
                rw [← HP.out]
                refine HLA.out ?_
                rw [hadd, ← hYl, titleL_noY Y ?_]
                · rfl
                · by_cases h5 : 5 < Y.size
                  · by_cases h6 : (lst Y).take 5 = titleP
                    · refine .inr (.inr ⟨h5, ?_⟩)
                      cases hb : blk (Y[5]'h5) with
                      | false => rfl
                      | true => exact absurd ⟨h5, h6, hb⟩ hyes
                    · exact .inr (.inl h6)
                  · exact .inl (by omega))
              have hcs : ¬ (Y.size : Int) > 5 ∨ ((Y.size : Int) > 5 ∧ (lst Y).take 5 ≠ titleP) ∨ (∃ h5 : 5 < Y.size, (lst Y).take 5 = titleP ∧ blk (Y[5]'h5) = false) := by
                by_cases h5 : 5 < Y.size
                · by_cases h6 : (lst Y).take 5 = titleP
                  · refine .inr (.inr ⟨h5, h6, ?_⟩)
                    cases hb : blk (Y[5]'h5) with
                    | false => rfl
                    | true => exact absurd ⟨h5, h6, hb⟩ hyes
                  · exact .inr (.inl ⟨by omega, h6⟩)
                · exact .inl (by omega)
              have HTI := Lib.hid (fun W => reftitle_any ⟨#[]⟩ W (by decide))
              rw [title_nil] at HTI
              clear HLA HLB hye hyt hadd ht hyes k0
              rcases hcs with h5 | ⟨h5, h6⟩ | ⟨h5, h6, h7⟩
              · go_wp2_with fail
                refine (HTR.out _).mono ?_
                rintro e w1 ⟨rfl, rfl⟩
                go_wp2_with fail
                refine (HTI.out _).mono ?_
                rintro e w3 ⟨rfl, hb3⟩
                have hbz := hb.trans (hb3.mono hb.size)
                have rz := rowIs_below R1.out hb3 (by omega)
                have c0 : w3.cell? ⟨w.heap.size, 0, none⟩ = some (.string ⟨#[]⟩) := rz.cell (show 0 < 2 by omega)
                have c1 : w3.cell? ⟨w.heap.size, 1, none⟩ = some (.slice none 0 0) := rz.cell (show 1 < 2 by omega)
                have f0 := rz.frozen 0; have f1 := rz.frozen 1
                clear rz hb3
                go_wp2
                refine bodyPost_ret (v := .tuple #[.agg #[.string ⟨#[]⟩, .slice none 0 0], .int .i64 ((n : Int) + 1), .int .i64 1]) (by simp [results, Tryd.results12, go_sem, c0, c1]) rfl ?_
                refine Parsed.bad1 HPB.out ?_
                first | exact hbz | ((repeat (refine Below.setCell ?_ (by simp) _)); exact hbz)
              · have hex := ext5_of Y false (by simp [h6])
                have h5z : (5 : Int) ≤ (Y.size : Int) := by omega
                clear h6 hYl
                go_wp2_with fail
                refine (HTR.out _).mono ?_
                rintro e w1 ⟨rfl, rfl⟩
                go_wp2_with fail
                refine (HTI.out _).mono ?_
                rintro e w3 ⟨rfl, hb3⟩
                have hbz := hb.trans (hb3.mono hb.size)
                have rz := rowIs_below R1.out hb3 (by omega)
                have c0 : w3.cell? ⟨w.heap.size, 0, none⟩ = some (.string ⟨#[]⟩) := rz.cell (show 0 < 2 by omega)
                have c1 : w3.cell? ⟨w.heap.size, 1, none⟩ = some (.slice none 0 0) := rz.cell (show 1 < 2 by omega)
                have f0 := rz.frozen 0; have f1 := rz.frozen 1
                clear rz hb3
                go_wp2
                refine bodyPost_ret (v := .tuple #[.agg #[.string ⟨#[]⟩, .slice none 0 0], .int .i64 ((n : Int) + 1), .int .i64 1]) (by simp [results, Tryd.results12, go_sem, c0, c1]) rfl ?_
                refine Parsed.bad1 HPB.out ?_
                first | exact hbz | ((repeat (refine Below.setCell ?_ (by simp) _)); exact hbz)
              · have hex := ext5_of Y true (by simp [h6])
                have h5' : (Y.size : Int) > 5 := by omega
                have HBL := Lib.hid (fun W => blank_any (Y[5]'h5) W)
                rw [h7] at HBL
                clear h6 h7 hYl
                go_wp2_with fail
                refine (HTR.out _).mono ?_
                rintro e w1 ⟨rfl, rfl⟩
                go_wp2_with fail
                refine (HBL.out _).mono ?_
                rintro e w1 ⟨rfl, rfl⟩
                go_wp2_with fail
                refine (HTI.out _).mono ?_
                rintro e w3 ⟨rfl, hb3⟩
                have hbz := hb.trans (hb3.mono hb.size)
                have rz := rowIs_below R1.out hb3 (by omega)
                have c0 : w3.cell? ⟨w.heap.size, 0, none⟩ = some (.string ⟨#[]⟩) := rz.cell (show 0 < 2 by omega)
                have c1 : w3.cell? ⟨w.heap.size, 1, none⟩ = some (.slice none 0 0) := rz.cell (show 1 < 2 by omega)
                have f0 := rz.frozen 0; have f1 := rz.frozen 1
                clear rz hb3
                go_wp2
                refine bodyPost_ret (v := .tuple #[.agg #[.string ⟨#[]⟩, .slice none 0 0], .int .i64 ((n : Int) + 1), .int .i64 1]) (by simp [results, Tryd.results12, go_sem, c0, c1]) rfl ?_
                refine Parsed.bad1 HPB.out ?_
                first | exact hbz | ((repeat (refine Below.setCell ?_ (by simp) _)); exact hbz)
          · have hqt : (str t).toList.isEmpty = false := str_nz ht
            have hadd := addL_o t ht os y hye
            obtain ⟨w0, rest, hwd⟩ := words_some hyt hye
            have hwd' : wrds Y = w0 :: rest := by
              show wordsL [] (lst Y) = _
              rw [hYl]; exact hwd
            have hzz := words_small hwd' (by unfold maxLen; omega)
            have hws := fun W => refwords_sl Y (rest.length + 1) (by rw [hwd']; rfl) W (by omega)
            rw [hwd'] at hws
            rw [hwd] at hadd
            have HWS := Lib.hid hws
            obtain ⟨mm, hmm⟩ : ∃ mm, rest.length = mm := ⟨_, rfl⟩
            rw [hmm] at HWS
            have HMM := Lib.hid hmm; have HZZ := Lib.hid hzz; have HADD := Lib.hid hadd
            clear hws hzz hmm hadd hwd hwd' hye hyt hYl c0 c1 f0 f1 d1 k1 k0
            go_wp2_with fail
            refine (HTR.out _).mono ?_
            rintro e w1 ⟨rfl, rfl⟩
            go_wp2_with fail
            refine (HWS.out _).mono ?_
            rintro e w2 ⟨A, c, rfl, hrs2, hc1, hc2, hb2⟩
            have HOP := Lib.hid (refop_any A w0 rest mm c w2.heap.size w2 HMM.out hrs2 (Nat.le_refl _) hc1 hc2 HZZ.out)
            clear hrs2
            go_wp2_with fail
            refine HOP.out.mono ?_
            intro e w3 hro0
            obtain ⟨o, bb, rfl, hb3, n1, n2⟩ := hro0.form
            clear hro0
            obtain ⟨W, hW⟩ : ∃ W, W = w3.alloc (.cells #[.int .i64 o.k, .int .i64 o.a, .int .i64 o.b, .int .i64 o.c] 39) := ⟨_, rfl⟩
            have hb23 := hb2.trans (hb3.mono hb2.size)
            have hs3 : w.heap.size + 2 ≤ w3.heap.size := Nat.le_trans hsz hb23.size
            have hbW := hb23.alloc hb23.size (.cells #[.int .i64 o.k, .int .i64 o.a, .int .i64 o.b, .int .i64 o.c] 39)
            rw [← hW] at hbW
            have hro : W.rowIs w3.heap.size 39 4 (opF o) := by
              rw [hW]
              refine World.rowIs_alloc w3 _ 39 (opF o) (fun i hi => ?_)
              have hi : i < 4 := hi
              obtain rfl | rfl | rfl | rfl : i = 0 ∨ i = 1 ∨ i = 2 ∨ i = 3 := by omega
              all_goals rfl
            have t0 : W.cell? ⟨w3.heap.size, 0, none⟩ = some (.int .i64 o.k) := hro.cell (show 0 < 4 by omega)
            have t1 : W.cell? ⟨w3.heap.size, 1, none⟩ = some (.int .i64 o.a) := hro.cell (show 1 < 4 by omega)
            have t2 : W.cell? ⟨w3.heap.size, 2, none⟩ = some (.int .i64 o.b) := hro.cell (show 2 < 4 by omega)
            have t3 : W.cell? ⟨w3.heap.size, 3, none⟩ = some (.int .i64 o.c) := hro.cell (show 3 < 4 by omega)
            have hsW : W.heap.size = w3.heap.size + 1 := by rw [hW]; simp
            have G1 := Lib.hid (rowIs_below R1.out hbW (by omega)); have G2 := Lib.hid (rowIs_below R2.out hbW (by omega))
            have GO := Lib.hid (HO.out.below hbW (Nat.le_refl _))
            have hbz := hb.trans (hbW.mono hb.size)
            obtain ⟨A3, cap3, rfl, hc5, hc6⟩ := GO.out.form_n os.length rfl
            have c0 : W.cell? ⟨w.heap.size, 0, none⟩ = some (.string ⟨#[]⟩) := G1.out.cell (show 0 < 2 by omega)
            have c1 : W.cell? ⟨w.heap.size, 1, none⟩ = some (.slice none 0 0) := G1.out.cell (show 1 < 2 by omega)
            have f0 := G1.out.frozen 0; have f1 := G1.out.frozen 1
            have e1 : W.cell? ⟨w.heap.size + 1, 1, none⟩ = some (.slice A3 os.length cap3) := G2.out.cell (show 1 < 2 by omega)
            have k1 := G2.out.frozen 1
            have HSW := Lib.hid hsW; clear hsW
            clear hro hb2 hb3 hb23 hbW HOP HWS HTR HMM HZZ d0 R1 R2 HO
            go_upto_region 19 with fail
            rw [← hW]
            have HWW := Lib.hid hW; clear hW
            have N1 := Lib.hid n1; have N2 := Lib.hid n2; clear n1 n2
            cases bb with
            | false =>
              have HPB := Lib.hid (show parseL (lst s) = .bad (n + 1) by
                rw [← HP.out]
                exact HLA.out (by rw [HADD.out, N2.out rfl]; split <;> rfl))
              clear HLA HLB HADD N1 N2 t0 t1 t2 t3 ht
              go_wp2
              refine bodyPost_ret (v := .tuple #[.agg #[.string ⟨#[]⟩, .slice none 0 0], .int .i64 ((n : Int) + 1), .int .i64 1]) (by simp [results, Tryd.results12, go_sem, c0, c1]) rfl ?_
              refine Parsed.bad1 HPB.out ?_
              first | exact hbz | ((repeat (refine Below.setCell ?_ (by simp) _)); exact hbz)
            | true =>
              by_cases h64 : 64 ≤ os.length
              · have h64' : (os.length : Int) ≥ 64 := by omega
                have HPB := Lib.hid (show parseL (lst s) = .bad (n + 1) by
                  rw [← HP.out]
                  exact HLA.out (by rw [HADD.out, if_neg (by omega)]))
                clear HLA HLB HADD N1 N2 t0 t1 t2 t3 ht
                go_wp2
                refine bodyPost_ret (v := .tuple #[.agg #[.string ⟨#[]⟩, .slice none 0 0], .int .i64 ((n : Int) + 1), .int .i64 1]) (by simp [results, Tryd.results12, go_sem, c0, c1]) rfl ?_
                refine Parsed.bad1 HPB.out ?_
                first | exact hbz | ((repeat (refine Below.setCell ?_ (by simp) _)); exact hbz)
              · have h64' : ¬ (os.length : Int) ≥ 64 := by omega
                have HPN := Lib.hid (HLB.out t (os ++ [o]) (by rw [HADD.out, if_pos (by omega), N1.out rfl]; rfl))
                have HX : Hid (OO (W.alloc (oObj o)) (w.heap.size + 2) (.slice A3 os.length cap3) os) := World.ownsRow.alloc GO.out _
                have HQ := Lib.hid (new_op W o)
                have HK := Lib.hid (show os.length ≤ 1000000 by omega)
                have HBs := Lib.hid (show w.heap.size + 2 ≤ (W.alloc (oObj o)).heap.size by have := HSW.out; simp; omega)
                have K1 := Lib.hid (World.rowIs.alloc G1.out (oObj o)); have K2 := Lib.hid (World.rowIs.alloc G2.out (oObj o))
                have hbA := hbz.alloc hbz.size (oObj o)
                have HTN := Lib.hid ht
                clear HLA HLB HADD N1 N2 ht c0 c1 f0 f1
                go_wp2_with (at_builtin; go_loud (refine wpList_append_op rfl (.tmp 85) (.tmp 87) rfl (w.heap.size + 2) (.slice A3 os.length cap3) os o rfl HX.out W.heap.size 1 rfl HQ.out HK.out HBs.out ?_; intro v2 w4 o2 g2; obtain ⟨A2, c2, rfl, hc7, hc8⟩ := o2.form_n (os.length + 1) (by simp); have r4 : w4.rowIs w.heap.size 26 2 (progF [] (.slice none 0 0)) := World.rowIs.of_block K1.out (g2.block _ (World.rowIs.lt K1.out) (fun e => by have := (World.ownsRow.lt HX.out _ e.symm).1; omega)); have r5 : w4.rowIs (w.heap.size + 1) 26 2 (progF t (.slice A3 os.length cap3)) := World.rowIs.of_block K2.out (g2.block _ (World.rowIs.lt K2.out) (fun e => by have := (World.ownsRow.lt HX.out _ e.symm).1; omega)); have s1 := World.rowIs.cell r5 (show 1 < 2 by omega); have s2 := World.rowIs.frozen r5 1; have R4 := Lib.hid r4; have R5 := Lib.hid r5; clear r4 r5; have O4 := Lib.hid o2; clear o2; have hb4 := hbA.grown g2 hbA.size (fun j hj => by have := (World.ownsRow.lt HX.out _ hj).1; omega); have hs4 := g2.size; clear g2))
                go_roundw
                case rel =>
                  refine ⟨r', n + 1, t, os ++ [o], .slice A2 (os.length + 1) c2, by rw [HR'.out], by go_num, by omega, by rw [List.length_append]; simp; omega, R4.out.setOther (by simp) _, (R5.out.set 1 _).congr (fun i hi => ?_), ownsRow_setCell_below O4.out (by simp) _, by unfold Hid; rw [← HP.out, HPN.out], fun e => absurd e HTN.out, hb4.setCell (by simp) _, ?_⟩
                  · obtain rfl | rfl : i = 0 ∨ i = 1 := by omega
                    all_goals rfl
                  · rw [World.size_setCell]
                    exact Nat.le_trans HBs.out hs4
                case measure => simp only [← HR'.out]; omega
    · obtain ⟨A, cap, rfl, g1, g2⟩ := HO.out.form_n os.length rfl
      have hr0 : r.size = 0 := by omega
      have h' : ¬ (0 : Int) < (r.size : Int) := by omega
      have hfin : finL t os = parseL (lst s) := by
        rw [← HP.out, ← pgo_done t os (n + 1)]
        congr 1
        exact (List.eq_nil_of_length_eq_zero (by rw [lst_len]; exact hr0)).symm
      have c0 : wr.cell? ⟨w.heap.size, 0, none⟩ = some (.string ⟨#[]⟩) := R1.out.cell (show 0 < 2 by omega)
      have c1 : wr.cell? ⟨w.heap.size, 1, none⟩ = some (.slice none 0 0) := R1.out.cell (show 1 < 2 by omega)
      have f0 := R1.out.frozen 0; have f1 := R1.out.frozen 1
      have d0 : wr.cell? ⟨w.heap.size + 1, 0, none⟩ = some (.string (str t)) := R2.out.cell (show 0 < 2 by omega)
      have d1 : wr.cell? ⟨w.heap.size + 1, 1, none⟩ = some (.slice A os.length cap) := R2.out.cell (show 1 < 2 by omega)
      by_cases h0 : os = []
      · have HPB := Lib.hid (show parseL (lst s) = .bad 0 by rw [← hfin, finL, if_pos h0])
        have hq : ((os.length : Int) == 0) = true := by rw [h0]; rfl
        clear hfin h0
        by_cases ht : t = []
        · have hqt : (str t).toList.isEmpty = true := str_z ht
          clear ht
          go_wp2
          refine bodyPost_ret (v := .tuple #[.agg #[.string ⟨#[]⟩, .slice none 0 0], .int .i64 ((0 : Nat) : Int), .int .i64 1]) (by simp [results, Tryd.results12, go_sem, c0, c1]) rfl ?_
          refine Parsed.bad HPB.out ?_
          first | exact hb | ((repeat (refine Below.setCell ?_ (by simp) _)); exact hb)
        · have hqt : (str t).toList.isEmpty = false := str_nz ht
          clear ht
          go_wp2
          refine bodyPost_ret (v := .tuple #[.agg #[.string ⟨#[]⟩, .slice none 0 0], .int .i64 ((0 : Nat) : Int), .int .i64 1]) (by simp [results, Tryd.results12, go_sem, c0, c1]) rfl ?_
          refine Parsed.bad HPB.out ?_
          first | exact hb | ((repeat (refine Below.setCell ?_ (by simp) _)); exact hb)
      · have hqt : (str t).toList.isEmpty = false := str_nz (fun e => h0 (HT0.out e))
        have HPB := Lib.hid (show parseL (lst s) = .ok t os by rw [← hfin, finL, if_neg h0])
        have hq : ((os.length : Int) == 0) = false := by
          rw [beq_eq_false_iff_ne]
          intro e
          exact h0 (List.eq_nil_of_length_eq_zero (by omega))
        have o2 : Hid (OO ((wr.setCell ⟨w.heap.size, 0, none⟩ (.string (str t))).setCell ⟨w.heap.size, 1, none⟩ (.slice A os.length cap)) (w.heap.size + 2) (.slice A os.length cap) os) := ownsRow_setCell_below (ownsRow_setCell_below HO.out (by simp) _) (by simp) _
        clear hfin h0
        go_wp2
        refine bodyPost_ret (v := .tuple #[.agg #[.string (str t), .slice A os.length cap], .int .i64 0, .int .i64 0]) (by simp [results, Tryd.results12, go_sem, c0, c1]) rfl ?_
        obtain ⟨A', cap', he, _, _, hro⟩ := o2.out.form
        injection he with he1 _ he2
        subst he1 he2
        exact Parsed.ok HPB.out rfl hro g1 g2 ((hb.setCell (by simp) _).setCell (by simp) _)
end Go.Proofs.YthidkkjhpdcenaaDoor
