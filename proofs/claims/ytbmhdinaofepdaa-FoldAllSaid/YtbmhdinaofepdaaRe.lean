/- THE WALKS over package quintainref1: Runes, Title. -/
import Derived.Test.YtbmhdinaofepdaaRd
import Derived.WalkSmall
import Derived.Deep.AppendLies
namespace Go.Proofs.Ytbmhdinaofepdaa
open Go.RowKit

theorem info32 : (Try.prog.info? 21).map (fun i => (i.zero, i.size, i.bytes)) = some (some (.int .i32 0), 1, 4) := by kernel_rfl

/-- The runes as cells. -/
def rcell (l : List (Nat × Nat)) : List Value := l.map fun x => .int .i32 (x.1 : Int)
theorem rcell_len (l : List (Nat × Nat)) : (rcell l).length = l.length := by simp [rcell]
theorem rcell_snoc (l : List (Nat × Nat)) (x : Nat × Nat) : rcell l ++ [.int .i32 (x.1 : Int)] = rcell (l ++ [x]) := by simp [rcell]
theorem good_snoc (l : List (Nat × Nat)) (x : Nat × Nat) : good (l ++ [x]) = (good l && okR x) := by simp [good]

/-- What Runes hands back. -/
def RunesOut (s : ByteArray) (w : World) (e : Ending) (w' : World) : Prop :=
  ∃ v, e = .returned (.tuple #[v, .bool (good (rns s))]) ∧ w'.ownsRow w.heap.size 21 1 v (rns s).length (rcell (rns s)) ∧ Below w.heap.size w w'

theorem below_one {B : Nat} {w w1 w2 : World} {o : Obj} {v : Value} {base n : Nat} {e : TypeId} {xs : List Value} (h : Below B w w1) (hown : w1.ownsRow base e 1 v n xs) (hB : B ≤ base) (hs : B ≤ w1.heap.size) (hg : (w1.alloc o).grownBy w2 v.ownBlock) : Below B w w2 :=
  (h.alloc hs o).grown hg (by simp; omega) fun k hk => Nat.le_trans hB (hown.lt k hk).1

set_option maxHeartbeats 1000000 in
theorem runes_any (s : ByteArray) (w : World) (hs : s.size ≤ 140737488351232 / 4) :
    Calls Try.prog 20 #[.string s] w (RunesOut s w) := by
  obtain ⟨i0, hi, hz0, hz1, hz2⟩ := info_parts info32
  have HZ0 := Lib.hid hz0; have HZ1 := Lib.hid hz1; have HZ2 := Lib.hid hz2; have HI := Lib.hid hi
  clear hz0 hz1 hz2 hi
  go_enter Try.func20, Try.ntmps20
  go_wp2
  go_loopw [0, 4, 5] (fun sv lv gv wr => ∃ (t : ByteArray) (pre : List (Nat × Nat)), sv = .string t ∧ t.size ≤ s.size ∧ pre.length + t.size ≤ s.size ∧ Hid (pre ++ rns t = rns s) ∧ Hid (wr.ownsRow w.heap.size 21 1 lv pre.length (rcell pre)) ∧ gv = .bool (good pre) ∧ Below w.heap.size w wr) (fun sv _ _ _ => match sv with | .string t => t.size | _ => 0)
  case atStart => exact ⟨s, [], rfl, by omega, by simp, by simp [Hid], World.ownsRow_nil _ _ _ _, rfl, Below.refl _ _⟩
  case round =>
    obtain ⟨t, pre, rfl, ht, hl, HP, HO, rfl, hb⟩ := hrel
    by_cases h : 0 < t.size
    · have h' : (0 : Int) < (t.size : Int) := by omega
      have h1 := dec_fits t 0 h
      have h2 := dec_pos t 0
      rw [Nat.zero_add] at h1
      have htm : t.size ≤ maxLen := by unfold maxLen; omega
      have HM := Lib.hid htm; clear htm
      have HX := Lib.hid (rns_step h)
      have hne : t.toList.isEmpty = false := not_empty t h
      have hbs : w.heap.size ≤ (wr.alloc (.cells #[.int .i32 ((Utf8.decode t 0).1 : Int)] 21)).heap.size := by simp; have := hb.size; omega
      have HBS := Lib.hid hbs; clear hbs
      cases hg : good pre with
      | false =>
          have hg0 := Lib.hid hg
          go_wp2_with (first | (go_at_call 28; refine (decode_any _ _ HM.out h).mono ?_; unfold dec0; rintro e w' ⟨rfl, rfl⟩) | (at_builtin; refine wpList_append_own _ rfl _ _ 25 rfl w.heap.size 21 i0 (.int .i32 0) 1 4 Try.underlying25 HI.out HZ0.out HZ1.out HZ2.out rfl (by decide) _ _ _ rfl (HO.out.alloc _) ⟨wr.heap.size, 0, none⟩ 1 1 [.int .i32 ((Utf8.decode t 0).1 : Int)] rfl rfl (cell_one_new _ _ _) (by simp [Value.oneCell']) (by unfold maxLen; omega) (by omega) HBS.out ?_; intro v' w1 hown1 hgrow _; have HO1 := Lib.hid hown1; have hb1 := below_one hb HO.out (Nat.le_refl _) hb.size hgrow; clear hown1 hgrow))
          go_roundw
          case rel =>
            refine ⟨t.extract (Utf8.decode t 0).2 t.size, pre ++ [Utf8.decode t 0], rfl, by rw [size_tail]; omega, by rw [size_tail]; simp; omega, ?_, ?_, ?_, hb1⟩
            · have := HP.out; rw [HX.out] at this; unfold Hid; rw [← this]; simp
            · have := HO1.out; rw [rcell_snoc] at this; unfold Hid; simpa using this
            · rw [good_snoc]; rw [hg0.out]; rfl
          case measure => simp; omega
      | true =>
        by_cases hr : (Utf8.decode t 0).1 = 65533
        · have hc : (((Utf8.decode t 0).1 : Int) != 65533) = false := by simp [hr]
          have hg0 := Lib.hid hg
          have hk : okR (Utf8.decode t 0) = (((Utf8.decode t 0).2 : Int) == 3) := by
            unfold okR; rw [hr, Bool.eq_iff_iff]; simp; omega
          have HK := Lib.hid hk; clear hk hr
          go_wp2_with (first | (go_at_call 28; refine (decode_any _ _ HM.out h).mono ?_; unfold dec0; rintro e w' ⟨rfl, rfl⟩) | (at_builtin; refine wpList_append_own _ rfl _ _ 25 rfl w.heap.size 21 i0 (.int .i32 0) 1 4 Try.underlying25 HI.out HZ0.out HZ1.out HZ2.out rfl (by decide) _ _ _ rfl (HO.out.alloc _) ⟨wr.heap.size, 0, none⟩ 1 1 [.int .i32 ((Utf8.decode t 0).1 : Int)] rfl rfl (cell_one_new _ _ _) (by simp [Value.oneCell']) (by unfold maxLen; omega) (by omega) HBS.out ?_; intro v' w1 hown1 hgrow _; have HO1 := Lib.hid hown1; have hb1 := below_one hb HO.out (Nat.le_refl _) hb.size hgrow; clear hown1 hgrow))
          go_roundw
          case rel =>
            refine ⟨t.extract (Utf8.decode t 0).2 t.size, pre ++ [Utf8.decode t 0], rfl, by rw [size_tail]; omega, by rw [size_tail]; simp; omega, ?_, ?_, ?_, hb1⟩
            · have := HP.out; rw [HX.out] at this; unfold Hid; rw [← this]; simp
            · have := HO1.out; rw [rcell_snoc] at this; unfold Hid; simpa using this
            · rw [good_snoc]; rw [hg0.out, HK.out]; rfl
          case measure => simp; omega
        · have hc : (((Utf8.decode t 0).1 : Int) != 65533) = true := by simp; omega
          have hg0 := Lib.hid hg
          have hk : okR (Utf8.decode t 0) = true := by simp [okR, hr]
          have HK := Lib.hid hk; clear hk hr
          go_wp2_with (first | (go_at_call 28; refine (decode_any _ _ HM.out h).mono ?_; unfold dec0; rintro e w' ⟨rfl, rfl⟩) | (at_builtin; refine wpList_append_own _ rfl _ _ 25 rfl w.heap.size 21 i0 (.int .i32 0) 1 4 Try.underlying25 HI.out HZ0.out HZ1.out HZ2.out rfl (by decide) _ _ _ rfl (HO.out.alloc _) ⟨wr.heap.size, 0, none⟩ 1 1 [.int .i32 ((Utf8.decode t 0).1 : Int)] rfl rfl (cell_one_new _ _ _) (by simp [Value.oneCell']) (by unfold maxLen; omega) (by omega) HBS.out ?_; intro v' w1 hown1 hgrow _; have HO1 := Lib.hid hown1; have hb1 := below_one hb HO.out (Nat.le_refl _) hb.size hgrow; clear hown1 hgrow))
          go_roundw
          case rel =>
            refine ⟨t.extract (Utf8.decode t 0).2 t.size, pre ++ [Utf8.decode t 0], rfl, by rw [size_tail]; omega, by rw [size_tail]; simp; omega, ?_, ?_, ?_, hb1⟩
            · have := HP.out; rw [HX.out] at this; unfold Hid; rw [← this]; simp
            · have := HO1.out; rw [rcell_snoc] at this; unfold Hid; simpa using this
            · rw [good_snoc]; rw [hg0.out, HK.out]; rfl
          case measure => simp; omega
    · have h' : ¬ (0 : Int) < (t.size : Int) := by omega
      go_wp2
      go_ret2
      have e : rns t = [] := rns_nil (by omega)
      have hp := HP.out
      rw [e, List.append_nil] at hp
      subst hp
      exact ⟨_, rfl, HO.out, hb⟩

theorem rcell_at {l : List (Nat × Nat)} {k : Nat} (h : k < l.length) : (rcell l)[k]? = some (.int .i32 ((l[k]'h).1 : Int)) := by
  simp [rcell, h]

set_option maxHeartbeats 1000000 in
theorem reftitle_any (s : ByteArray) (w : World) (hs : s.size ≤ 140737488351232 / 4) :
    Calls Try.prog 34 #[.string s] w fun e w' => e = .returned (.bool (titB s)) ∧ Below w.heap.size w w' := by
  have hlen := rns_len s
  cases hg : good (rns s) with
  | false =>
    have ht : titB s = false := by simp [titB, hg]
    have HT := Lib.hid ht; clear ht
    go_enter Try.func34, Try.ntmps34
    go_wp2_with (go_at_call 20; refine (runes_any _ _ hs).mono ?_; rintro e w1 ⟨v, rfl, hown, hb⟩)
    go_ret
    exact ⟨by rw [HT.out]; rfl, hb⟩
  | true =>
    go_enter Try.func34, Try.ntmps34
    go_wp2_with fail
    refine (runes_any _ _ hs).mono ?_
    rintro e w1 ⟨v, rfl, hown, hb⟩
    have HG := Lib.hid hg
    by_cases h1 : 1 ≤ (rns s).length
    · obtain ⟨g, cap, rfl, hg1, hg2⟩ := hown.form h1
      have HO := Lib.hid hown; clear hown
      have i1 : ¬ ((rns s).length : Int) < 1 := by omega
      by_cases h2 : (rns s).length ≤ 20
      · have i2 : ¬ ((rns s).length : Int) > 20 := by omega
        have ht : titB s = plainR (rns s) := by simp [titB, hg, h1, h2]
        have HT := Lib.hid ht; clear ht
        go_wp2
        go_loop [5] (fun i => ∃ k : Nat, k ≤ (rns s).length ∧ i = .int .i64 k ∧ Hid (plainR ((rns s).drop k) = plainR (rns s))) (fun i => (rns s).length - (intOf i).toNat)
        case atStart => exact ⟨0, by omega, rfl, rfl⟩
        case round =>
          obtain ⟨k, hk, rfl, HP⟩ := hrel
          by_cases hlt : k < (rns s).length
          · have hlt' : (k : Int) < ((rns s).length : Int) := by omega
            have hc := HO.out.cellAt k (by omega)
            rw [rcell_at hlt] at hc
            have hd : (rns s).drop k = (rns s)[k]'hlt :: (rns s).drop (k + 1) := List.drop_eq_getElem_cons hlt
            have HD := Lib.hid hd; clear hd
            by_cases hbad : ((rns s)[k]'hlt).1 < 32 ∨ ((rns s)[k]'hlt).1 = 127
            · have hq : plainR (rns s) = false := by
                rw [← HP.out, HD.out]
                simp only [plainR, List.all_cons]
                rcases hbad with ha | ha <;> simp [ha]
              have HQ := Lib.hid hq; clear hq
              by_cases hb3 : ((rns s)[k]'hlt).1 < 32
              · have hb' : (((rns s)[k]'hlt).1 : Int) < 32 := by omega
                clear hbad hb3
                go_wp2
                go_ret
                exact ⟨by rw [HT.out, HQ.out]; rfl, hb⟩
              · have hc : ((((rns s)[k]'hlt).1 : Int) == 127) = true := by
                  have : ((rns s)[k]'hlt).1 = 127 := by omega
                  rw [this]; rfl
                have hb' : ¬ (((rns s)[k]'hlt).1 : Int) < 32 := by omega
                clear hbad hb3
                go_wp2
                go_ret
                exact ⟨by rw [HT.out, HQ.out]; rfl, hb⟩
            · have hb' : ¬ (((rns s)[k]'hlt).1 : Int) < 32 := by omega
              have hc : ((((rns s)[k]'hlt).1 : Int) == 127) = false := by rw [beq_eq_false_iff_ne]; omega
              have e : (!(decide (((rns s)[k]'hlt).1 < 32) || ((rns s)[k]'hlt).1 == 127)) = true := by simp; omega
              have HE := Lib.hid e; clear e hbad
              go_wp2
              go_round
              case rel =>
                refine ⟨k + 1, by omega, by go_num, ?_⟩
                have := HP.out
                rw [HD.out] at this
                unfold Hid
                rw [← this]
                simp only [plainR, List.all_cons]
                rw [HE.out, Bool.true_and]
              case measure => simp [intOf]; omega
          · have hlt' : ¬ (k : Int) < ((rns s).length : Int) := by omega
            go_wp2
            go_ret
            refine ⟨?_, hb⟩
            rw [HT.out, ← HP.out, List.drop_eq_nil_of_le (by omega)]; rfl
      · have i2 : ((rns s).length : Int) > 20 := by omega
        have ht : titB s = false := by simp [titB, h2]
        have HT := Lib.hid ht; clear ht
        go_wp2
        go_ret
        exact ⟨by rw [HT.out]; rfl, hb⟩
    · have ht : titB s = false := by simp [titB, h1]
      have HT := Lib.hid ht; clear ht
      have h0 : (rns s).length = 0 := by omega
      rw [h0] at hown
      rcases hown.2 with ⟨rfl, _⟩ | ⟨g, cap, cur, rfl, _⟩
      · go_wp2
        go_ret
        exact ⟨by rw [HT.out]; rfl, hb⟩
      · go_wp2
        go_ret
        exact ⟨by rw [HT.out]; rfl, hb⟩
end Go.Proofs.Ytbmhdinaofepdaa
