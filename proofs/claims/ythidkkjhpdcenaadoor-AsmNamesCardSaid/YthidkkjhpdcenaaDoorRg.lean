/- THE WALK: runes.Words: it ranges over runes, and says the same words as by bytes. -/
import Derived.Test.YthidkkjhpdcenaaDoorRf
namespace Go.Proofs.YthidkkjhpdcenaaDoor
open Go.RowKit

/-! ### plain -/
theorem blk_iff (c : UInt8) : blk c = true ↔ c.toNat = 32 ∨ c.toNat = 9 := by
  unfold blk
  rw [Bool.or_eq_true, beq_iff_eq, beq_iff_eq, ← UInt8.toNat_inj, ← UInt8.toNat_inj]
  rfl

theorem get!_at (s : ByteArray) (p : Nat) (h : p < s.size) : s.get! p = s[p]'h := by
  have := get_at s p h
  simpa using this

theorem dec_blank (s : ByteArray) (p : Nat) (h : p < s.size) (hr : (Utf8.decode s p).1 = 32 ∨ (Utf8.decode s p).1 = 9) : (Utf8.decode s p).2 = 1 ∧ blk (s[p]'h) = true := by
  by_cases ha : (s[p]'h).toNat < 128
  · rw [decode_ascii s p h ha] at hr ⊢
    exact ⟨rfl, (blk_iff _).2 hr⟩
  · have := (decode_high s p h (by omega)).1
    omega

theorem dec_solid (s : ByteArray) (p : Nat) (_h : p < s.size) (hr : ¬ ((Utf8.decode s p).1 = 32 ∨ (Utf8.decode s p).1 = 9)) : ∀ j, j < (Utf8.decode s p).2 → blk (s.get! (p + j)) = false := by
  have hb : ∀ c : UInt8, blk c = false ↔ ¬ (c.toNat = 32 ∨ c.toNat = 9) := fun c => by rw [← blk_iff]; simp
  intro j hj
  rw [hb]
  rw [Lib.decode_at] at hr hj
  have hw : j = 0 ∨ j = 1 ∨ j = 2 ∨ j = 3 := by
    unfold Lib.decodeN at hj
    repeat' split at hj
    all_goals simp only at hj
    all_goals omega
  rcases hw with rfl | rfl | rfl | rfl
  all_goals
    try simp only [Nat.add_zero]
    generalize (s.get! p).toNat = c0 at *
    generalize (s.get! (p + 1)).toNat = c1 at *
    generalize (s.get! (p + 2)).toNat = c2 at *
    generalize (s.get! (p + 3)).toNat = c3 at *
    unfold Lib.decodeN at hj hr
    repeat' split at hj
    all_goals simp only at hj
    all_goals first | omega | (simp_all; omega) | simp_all

theorem wordsL_skip : ∀ (seg cur rest : List UInt8), (∀ c ∈ seg, blk c = false) → wordsL cur (seg ++ rest) = wordsL (cur ++ seg) rest := by
  intro seg
  induction seg with
  | nil => intro cur rest _; simp
  | cons c r ih =>
    intro cur rest h
    rw [List.cons_append, wordsL, if_neg (by rw [h c (by simp)]; simp), ih _ _ fun x hx => h x (by simp [hx])]
    simp

theorem cur_next (l : List UInt8) (start p n : Nat) (h : start ≤ p) (hp : p ≤ l.length) : ((l.take p).drop start) ++ (l.drop p).take n = (l.take (p + n)).drop start := by
  rw [List.take_add, List.drop_append_of_le_length (by simp; omega)]

theorem words_step (s : ByteArray) (start p : Nat) (h : p < s.size) (hst : start ≤ p) (hr : ¬ ((Utf8.decode s p).1 = 32 ∨ (Utf8.decode s p).1 = 9)) :
    wordsL (((lst s).take p).drop start) ((lst s).drop p) = wordsL (((lst s).take (p + (Utf8.decode s p).2)).drop start) ((lst s).drop (p + (Utf8.decode s p).2)) := by
  have hl : s.size = (lst s).length := size_len s
  have hd : (lst s).drop p = ((lst s).drop p).take (Utf8.decode s p).2 ++ (lst s).drop (p + (Utf8.decode s p).2) := by
    rw [← List.drop_drop, List.take_append_drop]
  have hn : ∀ c ∈ ((lst s).drop p).take (Utf8.decode s p).2, blk c = false := by
    intro c hc
    obtain ⟨j, hj, rfl⟩ := List.getElem_of_mem hc
    have hj2 : j < (Utf8.decode s p).2 ∧ j < (lst s).length - p := by simp at hj; omega
    have := dec_solid s p h hr j hj2.1
    rw [get!_eq, List.getElem?_eq_getElem (by show _ < (lst s).length; omega)] at this
    simpa [lst] using this
  rw [hd, wordsL_skip _ _ _ hn, cur_next _ _ _ _ hst (by omega)]

theorem cur_nil (s : ByteArray) (start p : Nat) (h : start ≤ p) (hp : p ≤ s.size) : ((lst s).take p).drop start = [] ↔ ¬ start < p := by
  have hl : s.size = (lst s).length := size_len s
  rw [List.drop_eq_nil_iff, List.length_take]
  omega
theorem lst_extract (s : ByteArray) (a b : Nat) : lst (s.extract a b) = ((lst s).take b).drop a := data_extract s a b

theorem own_less {w : World} {base base' : Nat} {e : TypeId} {size : Nat} {v : Value} {n : Nat} {xs : List Value} (h : w.ownsRow base e size v n xs) (hb : base' ≤ base) : w.ownsRow base' e size v n xs := by
  obtain ⟨h1, h2⟩ := h
  refine ⟨h1, ?_⟩
  rcases h2 with h2 | ⟨g, cap, cur, a, b, c⟩
  · exact .inl h2
  · exact .inr ⟨g, cap, cur, a, by omega, c⟩
/-- The iterator stands where it stood behind an append to a row of the call's own. -/
theorem iter_kept {wi w1 : World} {o : Obj} {k base n : Nat} {e : TypeId} {v : Value} {xs : List Value} {x : Obj} (h : wi.heap[k]? = some x) (hk : k < base) (hsz : k < wi.heap.size) (ho : wi.ownsRow base e 1 v n xs) (hg : (wi.alloc o).grownBy w1 v.ownBlock) : w1.heap[k]? = some x := by
  rw [hg.block k (by simp; omega) ?_, Below.heap_alloc _ _ _ hsz]
  · exact h
  · intro e
    have := (ho.lt _ e.symm).1
    omega

set_option maxHeartbeats 1000000 in
theorem words_any (s : ByteArray) (w : World) (hs : s.size ≤ 140737488351232 / 16) :
    Calls Tryd.prog 44 #[.string s] w (WordsOut s w) := by
  obtain ⟨i0, hi, hz0, hz1, hz2⟩ := info_parts infoStr
  have HZ0 := Lib.hid hz0; have HZ1 := Lib.hid hz1; have HZ2 := Lib.hid hz2; have HI := Lib.hid hi
  clear hz0 hz1 hz2 hi
  go_enter Tryd.func44, Tryd.ntmps44
  go_wp2
  go_loopw [3, 4] (fun lv iv wr => ∃ (p start : Nat) (out : List ByteArray), iv = .int .i64 start ∧ start ≤ p ∧ p ≤ s.size ∧ out.length ≤ start ∧ Hid (wr.heap[w.heap.size]? = some (.stringIter s p)) ∧ Hid (out.map lst ++ wordsL (((lst s).take p).drop start) ((lst s).drop p) = wrds s) ∧ Hid (wr.ownsRow (w.heap.size + 1) 9 1 lv out.length (out.map Value.string)) ∧ Below w.heap.size w wr ∧ w.heap.size + 1 ≤ wr.heap.size) (fun _ _ wr => s.size - wr.iterPos w.heap.size)
  case atStart => exact ⟨0, 0, [], rfl, by omega, by omega, by simp, w.iter_heap s 0, by simp [Hid, wrds, lst], World.ownsRow_nil _ _ _ _, below_iter _ _ _, by simp [World.iter]⟩
  case round =>
    obtain ⟨p, start, out, rfl, hst, hp, ho, HIT, HP, HO, hb, hsz⟩ := hrel
    by_cases h : p < s.size
    · obtain ⟨wi, hnx, HIT2, HO2, hb2, hsz2⟩ : ∃ wi : World, (∀ ty, (Instr.next (.pointer (some ⟨w.heap.size, 0, none⟩)) true ty).run Tryd.prog wr = .ok (.tuple #[.bool true, .int .i64 p, .int .i32 (Utf8.decode s p).1]) wi) ∧ Hid (wi.heap[w.heap.size]? = some (.stringIter s (p + (Utf8.decode s p).2))) ∧ Hid (wi.ownsRow (w.heap.size + 1) 9 1 _ out.length (out.map Value.string)) ∧ Below w.heap.size w wi ∧ w.heap.size + 1 ≤ wi.heap.size :=
        ⟨wr.iterAt w.heap.size s (p + (Utf8.decode s p).2), fun ty => Lib.run_next_any_at wr w.heap.size s p ty HIT.out h, Lib.iterAt_heap _ _ _ _ _ HIT.out, ownsRow_iterAt HO.out (Nat.lt_succ_self _) _ _, Lib.below_iterAt hb (Nat.le_refl _) _ _, by rw [Lib.iterAt_size]; exact hsz⟩
      have HQ := Lib.hid (iterPos_of HIT.out)
      clear HO HIT hb hsz
      have h1 := dec_fits s p h
      have h2 := dec_pos s p
      have HD := Lib.hid h
      by_cases hbl : (Utf8.decode s p).1 = 32 ∨ (Utf8.decode s p).1 = 9
      · obtain ⟨hw, hk⟩ := dec_blank s p h hbl
        have hor : (((Utf8.decode s p).1 : Int) != 32) = false ∨ ((((Utf8.decode s p).1 : Int) != 32) = true ∧ (((Utf8.decode s p).1 : Int) != 9) = false) := by
          rcases hbl with e | e <;> rw [e] <;> decide
        clear hbl
        have HW := Lib.hid hw; clear hw
        have HK := Lib.hid hk; clear hk
        have hd : wordsL (((lst s).take p).drop start) ((lst s).drop p) = (if ((lst s).take p).drop start = [] then wordsL [] ((lst s).drop (p + 1)) else ((lst s).take p).drop start :: wordsL [] ((lst s).drop (p + 1))) := by
          rw [lst_drop s p h, wordsL, if_pos HK.out]
        have he : ((lst s).take (p + 1)).drop (p + 1) = [] := by
          rw [List.drop_eq_nil_iff, List.length_take]; omega
        have HE := Lib.hid he; clear he
        have HX := Lib.hid hd; clear hd
        by_cases hlt : start < p
        · have hlt' : (start : Int) < (p : Int) := by omega
          have HN := Lib.hid (fun e => ((cur_nil s start p hst hp).1 e) hlt)
          have hbs : w.heap.size + 1 ≤ (wi.alloc (.cells #[.string (s.extract start p)] 9)).heap.size := by simp; omega
          have HBS := Lib.hid hbs; clear hbs
          rcases hor with g1 | ⟨g1, g2⟩
          all_goals
            go_wp2_with (at_builtin; refine wpList_append_own _ rfl _ _ 48 rfl (w.heap.size + 1) 9 i0 (.string ⟨#[]⟩) 1 16 Tryd.underlying48 HI.out HZ0.out HZ1.out HZ2.out rfl (by decide) _ _ _ rfl (HO2.out.alloc _) ⟨wi.heap.size, 0, none⟩ 1 1 [.string (s.extract start p)] rfl rfl (cell_one_new _ _ _) (by simp [Value.oneCell']) (by unfold maxLen; omega) (by omega) HBS.out ?_; intro v' w1 hown1 hgrow _; have HO1 := Lib.hid hown1; have hb1 := below_one hb2 HO2.out (Nat.le_succ _) hb2.size hgrow; have HG := Lib.hid hgrow; clear hown1 hgrow)
            go_roundw
            case rel =>
              refine ⟨p + 1, p + 1, out ++ [s.extract start p], by go_num, by omega, by omega, by simp; omega, ?_, ?_, ?_, hb1, ?_⟩
              · have := iter_kept HIT2.out (Nat.lt_succ_self _) (by omega) HO2.out HG.out
                rw [HW.out] at this
                exact this
              · have := HP.out
                rw [HX.out, if_neg HN.out] at this
                unfold Hid
                rw [← this, HE.out, List.map_append, List.map_cons, List.map_nil, lst_extract]
                simp
              · have := HO1.out
                unfold Hid
                simpa using this
              · have := HG.out.size; simp at this; omega
            case measure =>
              rw [HQ.out, iterPos_of (iter_kept HIT2.out (Nat.lt_succ_self _) (by omega) HO2.out HG.out)]; omega
        · have hlt' : ¬ (start : Int) < (p : Int) := by omega
          have HN := Lib.hid ((cur_nil s start p hst hp).2 hlt)
          rcases hor with g1 | ⟨g1, g2⟩
          all_goals
            go_wp2
            go_roundw
            case rel =>
              refine ⟨p + 1, p + 1, out, by go_num, by omega, by omega, by omega, ?_, ?_, HO2, hb2, hsz2⟩
              · rw [HW.out] at HIT2; exact HIT2
              · have := HP.out
                rw [HX.out, if_pos HN.out] at this
                unfold Hid
                rw [← this, HE.out]
            case measure => rw [HQ.out, iterPos_of HIT2.out]; omega
      · have g1 : (((Utf8.decode s p).1 : Int) != 32) = true := by simp; omega
        have g2 : (((Utf8.decode s p).1 : Int) != 9) = true := by simp; omega
        have hd := words_step s start p h hst hbl
        have HX := Lib.hid hd; clear hd hbl
        go_wp2
        go_roundw
        case rel =>
          refine ⟨p + (Utf8.decode s p).2, start, out, by go_num, by omega, by omega, by omega, HIT2, ?_, HO2, hb2, hsz2⟩
          have := HP.out
          rw [HX.out] at this
          exact this
        case measure => rw [HQ.out, iterPos_of HIT2.out]; omega
    · have hnx : ∀ ty, (Instr.next (.pointer (some ⟨w.heap.size, 0, none⟩)) true ty).run Tryd.prog wr = _ := fun ty => Lib.run_next_end_at wr w.heap.size s p ty HIT.out h
      have hd : (lst s).drop p = [] := List.drop_eq_nil_of_le (by unfold lst; rw [← size_len]; omega)
      obtain rfl : p = s.size := by omega
      have hp := HP.out
      rw [hd] at hp
      have HP2 := Lib.hid hp; clear hp hd HP
      by_cases hlt : start < s.size
      · have hlt' : (start : Int) < (s.size : Int) := by omega
        have HN := Lib.hid (fun e => ((cur_nil s start s.size hst (Nat.le_refl _)).1 e) hlt)
        have hbs : w.heap.size + 1 ≤ (wr.alloc (.cells #[.string (s.extract start s.size)] 9)).heap.size := by simp; omega
        have HBS := Lib.hid hbs; clear hbs
        go_wp2_with (at_builtin; refine wpList_append_own _ rfl _ _ 48 rfl (w.heap.size + 1) 9 i0 (.string ⟨#[]⟩) 1 16 Tryd.underlying48 HI.out HZ0.out HZ1.out HZ2.out rfl (by decide) _ _ _ rfl (HO.out.alloc _) ⟨wr.heap.size, 0, none⟩ 1 1 [.string (s.extract start s.size)] rfl rfl (cell_one_new _ _ _) (by simp [Value.oneCell']) (by unfold maxLen; omega) (by omega) HBS.out ?_; intro v' w1 hown1 hgrow _; have HO1 := Lib.hid hown1; have hb1 := below_one hb HO.out (Nat.le_succ _) hb.size hgrow; have HG := Lib.hid hgrow; clear hown1 hgrow)
        go_ret
        have e : (out ++ [s.extract start s.size]).map lst = wrds s := by
          have := HP2.out
          rw [wordsL, if_neg HN.out] at this
          rw [← this, List.map_append, List.map_cons, List.map_nil, lst_extract]
        refine ⟨_, rfl, ?_, hb1⟩
        rw [← e, ← wcell_of, List.length_map]
        have := own_less HO1.out (Nat.le_succ w.heap.size)
        simpa using this
      · have hlt' : ¬ (start : Int) < (s.size : Int) := by omega
        have HN := Lib.hid ((cur_nil s start s.size hst (Nat.le_refl _)).2 hlt)
        go_wp2
        go_ret
        have e : out.map lst = wrds s := by
          have := HP2.out
          rw [wordsL, if_pos HN.out, List.append_nil] at this
          exact this
        refine ⟨_, rfl, ?_, hb⟩
        rw [← e, ← wcell_of, List.length_map]
        exact own_less HO.out (Nat.le_succ w.heap.size)
end Go.Proofs.YthidkkjhpdcenaaDoor
