/- WALK of asm.Parse. -/
import Derived.Test.YthidkkjhpdcenaaDoorSe
namespace Go.Proofs.YthidkkjhpdcenaaDoor
set_option maxRecDepth 100000
open Go.RowKit
set_option linter.unusedVariables false

theorem trimL_idem (l : List UInt8) : trimL (trimL l) = trimL l := by
  induction l with
  | nil => rfl
  | cons c l ih =>
    by_cases hc : blk c = true
    · rw [trimL_blk c l hc, ih]
    · rw [trimL_cons c l (by simpa using hc), trimL_cons c l (by simpa using hc)]
theorem bareL_left (l : List UInt8) : trimL (bareL l) = bareL l := trimL_idem _

/-! ### plain: the loop's states -/
/-- the state behind the bytes ahead of p -/
def atP (s : ByteArray) (p start n : Nat) (t : List UInt8) (os : List O4) : Prop :=
  (p ≤ s.size → pgo t os n (((lst s).take p).drop start) ((lst s).drop p) = parseL (lst s)) ∧ (s.size < p → finL t os = parseL (lst s))
theorem atP.start (s : ByteArray) : atP s 0 0 1 [] [] := ⟨fun _ => rfl, fun h => by omega⟩
def nl : ByteArray := ⟨#[10]⟩
theorem lst_nl (s : ByteArray) : lst (s ++ nl) = lst s ++ [10] := lst_append s nl
theorem size_nl (s : ByteArray) : (s ++ nl).size = s.size + 1 := by rw [ByteArray.size_append]; rfl
theorem get_nl_at (s : ByteArray) (p : Nat) (h : p < s.size) : (s ++ nl).get! p = s.get! p := by
  rw [get!_eq, get!_eq]
  have e : (s ++ nl).data.toList = lst s ++ [10] := lst_nl s
  rw [e, List.getElem?_append_left (by rw [lst_len]; exact h)]
  rfl
theorem get_nl_end (s : ByteArray) : (s ++ nl).get! s.size = 10 := by
  rw [get!_eq]
  have e : (s ++ nl).data.toList = lst s ++ [10] := lst_nl s
  rw [e, List.getElem?_append_right (by rw [lst_len]; exact Nat.le_refl _), lst_len]
  simp
/-- a rune that ends no line -/
theorem atP.skip {s : ByteArray} {p start n : Nat} {t : List UInt8} {os : List O4} (h : atP s p start n t os) (hp : p < (s ++ nl).size) (hst : start ≤ p) (hr : (Utf8.decode (s ++ nl) p).1 ≠ 10) :
    p + (Utf8.decode (s ++ nl) p).2 ≤ s.size ∧ atP s (p + (Utf8.decode (s ++ nl) p).2) start n t os := by
  have hn := dec_not (s ++ nl) p hp 10 (by omega) hr
  have h1 := dec_fits (s ++ nl) p hp
  have h2 := dec_pos (s ++ nl) p
  have hsz := size_nl s
  have hfit : p + (Utf8.decode (s ++ nl) p).2 ≤ s.size := by
    by_cases hle : p + (Utf8.decode (s ++ nl) p).2 ≤ s.size
    · exact hle
    · exfalso
      have := hn (s.size - p) (by omega)
      rw [show p + (s.size - p) = s.size by omega, get_nl_end] at this
      exact this rfl
  generalize (Utf8.decode (s ++ nl) p).2 = k at *
  refine ⟨hfit, fun _ => ?_, fun hlt => by omega⟩
  rw [← h.1 (by omega)]
  have hl : (lst s).length = s.size := lst_len s
  have hd : (lst s).drop p = ((lst s).drop p).take k ++ (lst s).drop (p + k) := by rw [← List.drop_drop, List.take_append_drop]
  rw [hd, pgo_skip _ _ _ _ _ _ ?_, cur_next _ _ _ _ hst (by omega)]
  intro c hc
  obtain ⟨j, hj, rfl⟩ := List.getElem_of_mem hc
  have hj2 : j < k ∧ j < (lst s).length - p := by simp at hj; omega
  have hb := hn j hj2.1
  rw [get_nl_at s _ (by omega), get!_at s (p + j) (by omega)] at hb
  rw [List.getElem_take, List.getElem_drop]
  intro e
  exact hb (congrArg UInt8.toNat e)
/-- a line's end -/
theorem atP.line {s : ByteArray} {p start n : Nat} {t : List UInt8} {os : List O4} (h : atP s p start n t os) (hp : p < (s ++ nl).size) (hr : (Utf8.decode (s ++ nl) p).1 = 10) :
    (Utf8.decode (s ++ nl) p).2 = 1 ∧ p ≤ s.size ∧ (addL t os (bareL (((lst s).take p).drop start)) = none → parseL (lst s) = .bad n) ∧
      (∀ t' os', addL t os (bareL (((lst s).take p).drop start)) = some (t', os') → atP s (p + 1) (p + 1) (n + 1) t' os') := by
  obtain ⟨e1, e2⟩ := dec_low (s ++ nl) p hp (by omega)
  have hsz := size_nl s
  refine ⟨e1, by omega, ?_⟩
  have hl : (lst s).length = s.size := lst_len s
  have h0 := h.1 (by omega)
  by_cases hlt : p < s.size
  · have hb : (s[p]'hlt) = 10 := by
      apply UInt8.toNat_inj.1
      rw [hr] at e2
      rw [← get!_at s p hlt, ← get_nl_at s p hlt, get!_at (s ++ nl) p hp, e2]
      rfl
    rw [lst_drop s p hlt, hb] at h0
    refine ⟨fun ha => by rw [← h0]; exact pgo_bad _ _ _ _ _ ha, fun t' os' ha => ⟨fun _ => ?_, fun hh => by omega⟩⟩
    rw [← h0, pgo_nl _ _ _ _ _ _ _ ha]
    congr 1
    exact List.drop_eq_nil_of_le (by rw [List.length_take]; omega)
  · obtain rfl : p = s.size := by omega
    have hd : (lst s).drop s.size = [] := List.drop_eq_nil_of_le (by omega)
    rw [hd] at h0
    refine ⟨fun ha => by rw [← h0]; exact pgo_bad_end _ _ _ _ ha, fun t' os' ha => ⟨fun hh => by omega, fun _ => ?_⟩⟩
    rw [← h0, pgo_end _ _ _ _ _ _ ha]
theorem atP.done {s : ByteArray} {p start n : Nat} {t : List UInt8} {os : List O4} (h : atP s p start n t os) (hp : ¬ p < (s ++ nl).size) : finL t os = parseL (lst s) := by
  have hsz := size_nl s
  exact h.2 (by omega)

/-- what Parse answers -/
def Parsed (l : List UInt8) (w : World) (e : Ending) (w' : World) : Prop := match parseL l with
  | .bad n => e = .returned (.tuple #[progV ⟨#[]⟩ none 0 0, .int .i64 (n : Int), .int .i64 1]) ∧ Below w.heap.size w w'
  | .ok t os => ∃ A cap, e = .returned (.tuple #[progV (str t) A os.length cap, .int .i64 0, .int .i64 0]) ∧ RO w' w'.heap.size A os ∧ os.length ≤ cap ∧ cap ≤ maxLen ∧ Below w.heap.size w w'
theorem Parsed.bad {l : List UInt8} {n : Nat} {w w' : World} (h : parseL l = .bad n) (hb : Below w.heap.size w w') : Parsed l w (.returned (.tuple #[.agg #[.string ⟨#[]⟩, .slice none 0 0], .int .i64 (n : Int), .int .i64 1])) w' := by
  unfold Parsed; rw [h]; exact ⟨rfl, hb⟩
theorem Parsed.ok {l t : List UInt8} {os : List O4} {w w' : World} {A : Option Addr} {m cap : Nat} (h : parseL l = .ok t os) (hm : os.length = m) (hr : RO w' w'.heap.size A os) (h1 : m ≤ cap) (h2 : cap ≤ maxLen) (hb : Below w.heap.size w w') :
    Parsed l w (.returned (.tuple #[.agg #[.string (str t), .slice A m cap], .int .i64 0, .int .i64 0])) w' := by
  subst hm
  unfold Parsed; rw [h]; exact ⟨A, cap, rfl, hr, h1, h2, hb⟩

theorem zeroP (w : World) : (w.alloc (.cells #[.string ⟨#[]⟩, .slice none 0 0] 26)).rowIs w.heap.size 26 2 (progF [] (.slice none 0 0)) :=
  World.rowIs_alloc w _ _ _ (fun i hi => by
    have hi : i < 2 := hi
    obtain rfl | rfl : i = 0 ∨ i = 1 := by omega
    all_goals rfl)
set_option maxHeartbeats 1000000 in
theorem parse_any (s : ByteArray) (w : World) (hT : Tabs w) (hs : s.size ≤ 100000) :
    Calls Tryd.prog 11 #[.string s] w (Parsed (lst s) w) := by
  have HTT := Lib.hid hT; clear hT
  obtain ⟨W0, hW0⟩ : ∃ W0, W0 = (w.alloc (.cells #[.string ⟨#[]⟩, .slice none 0 0] 26)).alloc (.cells #[.string ⟨#[]⟩, .slice none 0 0] 26) := ⟨_, rfl⟩
  have z1 : W0.rowIs w.heap.size 26 2 (progF [] (.slice none 0 0)) := by rw [hW0]; exact (zeroP w).alloc _
  have z2 : W0.rowIs (w.heap.size + 1) 26 2 (progF [] (.slice none 0 0)) := by
    have := zeroP (w.alloc (.cells #[.string ⟨#[]⟩, .slice none 0 0] 26))
    rw [World.size_alloc] at this
    rw [hW0]; exact this
  have hz0 : W0.heap.size = w.heap.size + 2 := by rw [hW0]; simp
  have b0 : Below w.heap.size w W0 := by rw [hW0]; exact ((Below.refl _ _).alloc (Nat.le_refl _) _).alloc (by simp) _
  have hus := size_nl s
  obtain ⟨u, hu⟩ : ∃ u, u = s ++ nl := ⟨_, rfl⟩
  have Z1 := Lib.hid z1; have Z2 := Lib.hid z2; clear z1 z2
  rw [← hu] at hus
  go_enter Tryd.func11, Tryd.ntmps11
  go_wp2_with fail
  have hu2 : s ++ (⟨#[10]⟩ : ByteArray) = u := hu.symm
  rw [← hW0, hu2]
  have HU := Lib.hid hu; clear hu hu2
  have HW := Lib.hid hW0; clear hW0
  have hit := W0.iter_heap u 0
  rw [hz0] at hit
  have bi : Below W0.heap.size W0 (W0.iter u 0) := below_iter W0 u 0
  have hsi : w.heap.size + 3 ≤ (W0.iter u 0).heap.size := by simp [World.iter]; omega
  have I0 := Lib.hid hit; clear hit
  have Y1 := Lib.hid (rowIs_below Z1.out bi (by omega)); have Y2 := Lib.hid (rowIs_below Z2.out bi (by omega))
  have bj : Below w.heap.size w (W0.iter u 0) := b0.trans (bi.mono (by omega))
  clear Z1 Z2 b0 bi
  go_loopw [6, 7] (fun sv nv wr => ∃ (p start n : Nat) (t : List UInt8) (os : List O4) (v : Value), sv = .int .i64 start ∧ nv = .int .i64 n ∧ start ≤ p ∧ p ≤ u.size ∧ n ≤ p + 1 ∧ os.length ≤ 64 ∧ Hid (wr.heap[w.heap.size + 2]? = some (.stringIter u p)) ∧
      Hid (wr.rowIs w.heap.size 26 2 (progF [] (.slice none 0 0))) ∧ Hid (wr.rowIs (w.heap.size + 1) 26 2 (progF t v)) ∧ Hid (OO wr (w.heap.size + 3) v os) ∧ Hid (atP s p start n t os) ∧ Below w.heap.size w wr ∧ w.heap.size + 3 ≤ wr.heap.size) (fun _ _ wr => u.size - wr.iterPos (w.heap.size + 2))
  case atStart => exact ⟨0, 0, 1, [], [], .slice none 0 0, rfl, rfl, by omega, by omega, by omega, by simp, I0, Y1, Y2, OO.nil _ _, atP.start s, bj, hsi⟩
  case round =>
    obtain ⟨p, start, n, t, os, v, rfl, rfl, hst, hp, hn, hl, HIT, R1, R2, HO, HA, hb, hsz⟩ := hrel
    clear I0 Y1 Y2 bj hsi
    by_cases h : p < u.size
    · obtain ⟨wi, hnx, HIT2, HO2, Q1, Q2, hb2, hsz2, bwi⟩ : ∃ wi : World, (∀ ty, (Instr.next (.pointer (some ⟨w.heap.size + 2, 0, none⟩)) true ty).run Tryd.prog wr = .ok (.tuple #[.bool true, .int .i64 p, .int .i32 (Utf8.decode u p).1]) wi) ∧ Hid (wi.heap[w.heap.size + 2]? = some (.stringIter u (p + (Utf8.decode u p).2))) ∧ Hid (OO wi (w.heap.size + 3) v os) ∧
          Hid (wi.rowIs w.heap.size 26 2 (progF [] (.slice none 0 0))) ∧ Hid (wi.rowIs (w.heap.size + 1) 26 2 (progF t v)) ∧ Below w.heap.size w wi ∧ w.heap.size + 3 ≤ wi.heap.size ∧ Below (w.heap.size + 2) wr wi :=
        have bz : Below (w.heap.size + 2) wr (wr.iterAt (w.heap.size + 2) u (p + (Utf8.decode u p).2)) := Lib.below_iterAt (Below.refl _ _) (Nat.le_refl _) _ _
        ⟨wr.iterAt (w.heap.size + 2) u (p + (Utf8.decode u p).2), fun ty => Lib.run_next_any_at wr (w.heap.size + 2) u p ty HIT.out h, Lib.iterAt_heap _ _ _ _ _ HIT.out, ownsRow_iterAt HO.out (Nat.lt_succ_self _) _ _, rowIs_below R1.out bz (by omega), rowIs_below R2.out bz (by omega), Lib.below_iterAt hb (by omega) _ _, by rw [Lib.iterAt_size]; exact hsz, bz⟩
      have hm := Lib.hid (iterPos_of HIT.out)
      clear HIT HO R1 R2 hb hsz
      have h' : p < (s ++ nl).size := by rw [← HU.out]; exact h
      by_cases hr : (Utf8.decode u p).1 = 10
      · have hq : (((Utf8.decode u p).1 : Int) != 10) = false := by rw [hr]; rfl
        obtain ⟨hw1, hps, hbad, hgood⟩ := HA.out.line h' (by rw [← HU.out]; exact hr)
        rw [← HU.out] at hw1
        rw [hw1] at HIT2
        have hxs : (s.extract start p).size ≤ maxLen := by rw [ByteArray.size_extract]; unfold maxLen; omega
        have HBR := Lib.hid (bare_any (s.extract start p) wi hxs)
        rw [lst_extract] at HBR
        obtain ⟨x, hx⟩ : ∃ x, x = ((lst s).take p).drop start := ⟨_, rfl⟩
        rw [← hx] at HBR hbad hgood
        have hxl : x.length ≤ 100000 := by rw [hx, List.length_drop, List.length_take, lst_len]; omega
        obtain ⟨y, hy⟩ : ∃ y, y = bareL x := ⟨_, rfl⟩
        rw [← hy] at HBR hbad hgood
        have hyl : (str y).size ≤ 1000000 := by rw [str_size, hy]; have := bareL_len x; omega
        have hyt : trimL (lst (str y)) = lst (str y) := by rw [lst_str, hy]; exact bareL_left x
        have HBAD := Lib.hid hbad; have HGOOD := Lib.hid hgood
        have hsub : (start : Int) ≤ (p : Int) := by omega
        have hsub2 : (p : Int) ≤ (s.size : Int) := by omega
        clear hbad hgood hw1 hr h' hxs hx hy
        go_wp2_with fail
        refine HBR.out.mono ?_
        rintro e w3 ⟨rfl, hb3⟩
        have hb3' : Below w.heap.size w w3 := hb2.trans (hb3.mono (by omega))
        have r1 : Hid (w3.rowIs w.heap.size 26 2 (progF [] (.slice none 0 0))) := rowIs_below Q1.out hb3 (by omega)
        have HL := Lib.hid (addline_any (str y) t os v (w.heap.size + 3) (w.heap.size + 1) w3 (HTT.out.next hb3') hyl (rowIs_below Q2.out hb3 (by omega)) (HO2.out.below hb3 (Nat.le_refl _)) (by omega) (by have := hb3.size; omega) hyt hl)
        rw [lst_str] at HL
        have hit3 : Hid (w3.heap[w.heap.size + 2]? = some (.stringIter u (p + 1))) := (hb3.block _ (by omega)).trans HIT2.out
        have hs3 : w.heap.size + 3 ≤ w3.heap.size := Nat.le_trans hsz2 hb3.size
        clear hb3 hyt hyl hxl HBR
        go_wp2_with fail
        refine HL.out.mono ?_
        rintro e w4 ⟨hnear, hm4⟩
        have hb4 : Below w.heap.size w w4 := hb3'.trans ((hnear.to_below (by omega)).mono (by omega))
        have r4 : w4.rowIs w.heap.size 26 2 (progF [] (.slice none 0 0)) := World.rowIs.of_block r1.out (hnear.block _ (by omega) (by omega))
        have hit4 : Hid (w4.heap[w.heap.size + 2]? = some (.stringIter u (p + 1))) := (hnear.block _ (by omega) (by omega)).trans hit3.out
        have hs4 : w.heap.size + 3 ≤ w4.heap.size := Nat.le_trans hs3 hnear.size
        clear hnear
        cases ha : addL t os y with
        | none =>
          rw [ha] at hm4
          have hm5 : e = .returned (.bool false) := hm4
          subst hm5
          have HP := Lib.hid (HBAD.out ha)
          have c0 : w4.cell? ⟨w.heap.size, 0, none⟩ = some (.string ⟨#[]⟩) := r4.cell (show 0 < 2 by omega)
          have c1 : w4.cell? ⟨w.heap.size, 1, none⟩ = some (.slice none 0 0) := r4.cell (show 1 < 2 by omega)
          have f0 := r4.frozen 0; have f1 := r4.frozen 1
          clear ha hm4 r4
          go_wp2
          refine bodyPost_ret (v := .tuple #[.agg #[.string ⟨#[]⟩, .slice none 0 0], .int .i64 (n : Int), .int .i64 1]) (by simp [results, Tryd.results11, go_sem, c0, c1]) rfl ?_
          refine Parsed.bad HP.out ?_
          first | exact hb4 | ((repeat (refine Below.setCell ?_ (by simp) _)); exact hb4)
        | some q =>
          obtain ⟨t', os'⟩ := q
          rw [ha] at hm4
          obtain ⟨v', he, r5, o5⟩ := hm4
          subst he
          have HAT := Lib.hid (HGOOD.out t' os' ha)
          have hl' := addL_len ha hl
          have R4 := Lib.hid r4; have R5 := Lib.hid r5; have O5 := Lib.hid o5
          clear ha r4 r5 o5
          go_wp2
          go_roundw
          case rel => exact ⟨p + 1, p + 1, n + 1, t', os', v', by go_num, by go_num, by omega, by omega, by omega, hl', hit4, R4, R5, O5, HAT, hb4, hs4⟩
          case measure => rw [hm.out, iterPos_of hit4.out]; omega
      · have hq : (((Utf8.decode u p).1 : Int) != 10) = true := by simp; omega
        have hk := HA.out.skip h' hst (by rw [← HU.out]; exact hr)
        rw [← HU.out] at hk
        obtain ⟨hfit, hat⟩ := hk
        have HAT := Lib.hid hat
        have hpos := dec_pos u p
        clear hr hat h'
        go_wp2_with fail
        go_roundw
        case rel => exact ⟨p + (Utf8.decode u p).2, start, n, t, os, v, rfl, rfl, by omega, by omega, by omega, hl, HIT2, Q1, Q2, HO2, HAT, hb2, hsz2⟩
        case measure => rw [hm.out, iterPos_of HIT2.out]; omega
    · have hnx : ∀ ty, (Instr.next (.pointer (some ⟨w.heap.size + 2, 0, none⟩)) true ty).run Tryd.prog wr = _ := fun ty => Lib.run_next_end_at wr (w.heap.size + 2) u p ty HIT.out h
      have hfin := HA.out.done (by rw [← HU.out]; exact h)
      have c0 : wr.cell? ⟨w.heap.size, 0, none⟩ = some (.string ⟨#[]⟩) := R1.out.cell (show 0 < 2 by omega)
      have c1 : wr.cell? ⟨w.heap.size, 1, none⟩ = some (.slice none 0 0) := R1.out.cell (show 1 < 2 by omega)
      have f0 := R1.out.frozen 0; have f1 := R1.out.frozen 1
      have d0 : wr.cell? ⟨w.heap.size + 1, 0, none⟩ = some (.string (str t)) := R2.out.cell (show 0 < 2 by omega)
      obtain ⟨A, cap, rfl, g1, g2⟩ := HO.out.form_n os.length rfl
      have d1 : wr.cell? ⟨w.heap.size + 1, 1, none⟩ = some (.slice A os.length cap) := R2.out.cell (show 1 < 2 by omega)
      by_cases h0 : os = []
      · have HP := Lib.hid (show parseL (lst s) = .bad 0 by rw [← hfin, finL, if_pos h0])
        have hq : ((os.length : Int) == 0) = true := by rw [h0]; rfl
        clear hfin h0
        go_wp2
        refine bodyPost_ret (v := .tuple #[.agg #[.string ⟨#[]⟩, .slice none 0 0], .int .i64 ((0 : Nat) : Int), .int .i64 1]) (by simp [results, Tryd.results11, go_sem, c0, c1]) rfl ?_
        refine Parsed.bad HP.out ?_
        first | exact hb | ((repeat (refine Below.setCell ?_ (by simp) _)); exact hb)
      · have HP := Lib.hid (show parseL (lst s) = .ok t os by rw [← hfin, finL, if_neg h0])
        have hq : ((os.length : Int) == 0) = false := by
          rw [beq_eq_false_iff_ne]
          intro e
          exact h0 (List.eq_nil_of_length_eq_zero (by omega))
        have o2 : Hid (OO ((wr.setCell ⟨w.heap.size, 0, none⟩ (.string (str t))).setCell ⟨w.heap.size, 1, none⟩ (.slice A os.length cap)) (w.heap.size + 3) (.slice A os.length cap) os) := ownsRow_setCell_below (ownsRow_setCell_below HO.out (by simp) _) (by simp) _
        clear hfin h0
        go_wp2
        refine bodyPost_ret (v := .tuple #[.agg #[.string (str t), .slice A os.length cap], .int .i64 0, .int .i64 0]) (by simp [results, Tryd.results11, go_sem, c0, c1]) rfl ?_
        obtain ⟨A', cap', he, _, _, hro⟩ := o2.out.form
        injection he with he1 _ he2
        subst he1 he2
        exact Parsed.ok HP.out rfl hro g1 g2 ((hb.setCell (by simp) _).setCell (by simp) _)
end Go.Proofs.YthidkkjhpdcenaaDoor
