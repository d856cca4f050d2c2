/- WALKS over package asm: bare, parseTitle. -/
import Derived.Test.YthidkkjhpdcenaaDoorSa
import Derived.Test.YthidkkjhpdcenaaDoorAb
namespace Go.Proofs.YthidkkjhpdcenaaDoor
set_option maxRecDepth 100000
open Go.RowKit
set_option linter.unusedVariables false

theorem lst_str (l : List UInt8) : lst (str l) = l := by simp [lst, str]
theorem str_inj {a b : List UInt8} (h : str a = str b) : a = b := by have := congrArg lst h; rwa [lst_str, lst_str] at this
/-- bytes of a rune that is not a given low byte -/
theorem dec_not (s : ByteArray) (p : Nat) (h : p < s.size) (x : Nat) (hx : x < 128) (hr : (Utf8.decode s p).1 ≠ x) : ∀ j, j < (Utf8.decode s p).2 → (s.get! (p + j)).toNat ≠ x := by
  intro j hj
  by_cases hl : (Utf8.decode s p).1 < 128
  · obtain ⟨e1, e2⟩ := dec_low s p h hl
    obtain rfl : j = 0 := by omega
    rw [Nat.add_zero, get!_at s p h, e2]
    exact hr
  · have := dec_wide s p h (by omega) j hj
    omega
theorem mem_take_more (s : ByteArray) (p n : Nat) (x : UInt8) (hp : p + n ≤ s.size) (h1 : ∀ c ∈ (lst s).take p, c ≠ x) (h2 : ∀ j, j < n → (s.get! (p + j)).toNat ≠ x.toNat) : ∀ c ∈ (lst s).take (p + n), c ≠ x := by
  intro c hc
  obtain ⟨i, hi, rfl⟩ := List.getElem_of_mem hc
  rw [List.length_take] at hi
  rw [List.getElem_take]
  by_cases hip : i < p
  · exact h1 _ (by rw [List.mem_take_iff_getElem]; exact ⟨i, by rw [lst_len]; have := lst_len s; omega, rfl⟩)
  · intro e
    refine h2 (i - p) (by omega) ?_
    rw [show p + (i - p) = i by omega, get!_at s i (by have := lst_len s; omega)]
    exact congrArg UInt8.toNat e
theorem lst_front (s : ByteArray) (p : Nat) : lst (s.extract 0 p) = (lst s).take p := by rw [lst_extract]; rfl
theorem size_front (s : ByteArray) (p : Nat) : (s.extract 0 p).size ≤ s.size := by rw [ByteArray.size_extract]; omega

set_option maxHeartbeats 1000000 in
theorem bare_any (s : ByteArray) (w : World) (hs : s.size ≤ maxLen) :
    Calls Tryd.prog 20 #[.string s] w fun e w' => e = .returned (.string (str (bareL (lst s)))) ∧ Below w.heap.size w w' := by
  have HM := Lib.hid hs
  unfold maxLen at hs
  go_enter Tryd.func20, Tryd.ntmps20
  go_wp2
  go_loopw [] (fun wr => ∃ p : Nat, wr = w.iter s p ∧ p ≤ s.size ∧ Hid (∀ c ∈ (lst s).take p, c ≠ 35)) (fun wr => s.size - wr.iterPos w.heap.size)
  case atStart => exact ⟨0, rfl, by omega, by simp [Hid]⟩
  case round =>
    obtain ⟨p, rfl, hp, HH⟩ := hrel
    by_cases h : p < s.size
    · have hnx : ∀ ty, (Instr.next (.pointer (some ⟨w.heap.size, 0, none⟩)) true ty).run Tryd.prog (w.iter s p) = _ := fun ty => run_next_any w s p ty h
      have h1 := dec_fits s p h
      have h2 := dec_pos s p
      have HN := Lib.hid (dec_not s p h 35 (by omega))
      by_cases hr : (Utf8.decode s p).1 = 35
      · obtain ⟨e1, e2⟩ := dec_low s p h (by omega)
        have hq : (((Utf8.decode s p).1 : Int) == 35) = true := by rw [hr]; rfl
        have hb : bareL (lst s) = trimL (trimR ((lst s).take p)) := by
          have e3 : lst s = (lst s).take p ++ 35 :: (lst s).drop (p + 1) := by
            have e4 := lst_drop s p h
            have e5 : (s[p]'h) = 35 := UInt8.toNat_inj.1 (by rw [e2, hr]; rfl)
            rw [e5] at e4
            rw [← e4, List.take_append_drop]
          unfold bareL
          conv => lhs; rw [e3, noHash_at HH.out]
        have HB := Lib.hid hb
        have HT := Lib.hid (fun W => strtrim_any (s.extract 0 p) W (Nat.le_trans (size_front s p) HM.out))
        clear hb hr e1 e2
        go_wp2_with (go_at_call 32; refine (HT.out _).mono ?_; rintro e w2 ⟨rfl, hb2⟩)
        go_ret
        refine ⟨?_, (below_iter w s _).trans (hb2.mono (by simp [World.iter]))⟩
        rw [HB.out, lst_front]; rfl
      · have hq : (((Utf8.decode s p).1 : Int) == 35) = false := by rw [beq_eq_false_iff_ne]; omega
        have HH2 := Lib.hid (mem_take_more s p _ 35 h1 HH.out (fun j hj => HN.out hr j hj))
        clear hr HH
        go_wp2_with fail
        go_roundw
        case rel => exact ⟨p + (Utf8.decode s p).2, rfl, h1, HH2⟩
        case measure => simp; omega
    · obtain rfl : p = s.size := by omega
      have hnx : ∀ ty, (Instr.next (.pointer (some ⟨w.heap.size, 0, none⟩)) true ty).run Tryd.prog (w.iter s s.size) = _ := fun ty => run_next_end w s s.size ty h
      have hb : bareL (lst s) = trimL (trimR (lst s)) := by
        have := HH.out
        rw [List.take_of_length_le (by rw [lst_len]; exact Nat.le_refl _)] at this
        unfold bareL
        rw [noHash_of this]
      have HB := Lib.hid hb
      have HT := Lib.hid (fun W => strtrim_any s W HM.out)
      clear hb
      go_wp2_with (go_at_call 32; refine (HT.out _).mono ?_; rintro e w2 ⟨rfl, hb2⟩)
      go_ret
      exact ⟨by rw [HB.out]; rfl, (below_iter w s _).trans (hb2.mono (by simp [World.iter]))⟩

/-- what parseTitle answers -/
def titleV (o : Option (List UInt8)) : Value := .tuple #[.string (str (o.getD [])), .bool o.isSome]
theorem take5_len (l : List UInt8) (h : l.take 5 = titleP) : 5 ≤ l.length := by
  have := congrArg List.length h
  rw [List.length_take] at this
  have e : titleP.length = 5 := rfl
  omega
theorem str_toList2 (l : List UInt8) : (str l).toList = l := str_toList l
theorem str_eq_iff (a b : List UInt8) : ((str a).toList == (str b).toList) = decide (a = b) := by
  rw [str_toList, str_toList, Bool.eq_iff_iff]; simp
set_option maxHeartbeats 1000000 in
theorem parsetitle_any (s : ByteArray) (w : World) (hs : s.size ≤ maxLen) :
    Calls Tryd.prog 30 #[.string s] w fun e w' => e = .returned (titleV (titleL (lst s))) ∧ Below w.heap.size w w' := by
  have HC := Lib.hid (cutprefix_any s w)
  have HM := Lib.hid hs; clear hs
  obtain ⟨y, hy⟩ : ∃ y, y = if (lst s).take 5 = titleP then (lst s).drop 5 else lst s := ⟨_, rfl⟩
  obtain ⟨b, hb⟩ : ∃ b, b = decide ((lst s).take 5 = titleP) := ⟨_, rfl⟩
  rw [← hy, ← hb] at HC
  have hyz : (str y).size ≤ maxLen := by
    rw [str_size, hy]
    split
    · rw [List.length_drop, lst_len]; exact Nat.le_trans (Nat.sub_le _ _) HM.out
    · rw [lst_len]; exact HM.out
  have HL := Lib.hid (strtriml_any (str y) w)
  rw [lst_str] at HL
  obtain ⟨z, hz⟩ : ∃ z, z = trimL y := ⟨_, rfl⟩
  rw [← hz] at HL
  have hzz : (str z).size ≤ maxLen := by
    rw [str_size, hz]
    exact Nat.le_trans (trimL_len y) (by rw [str_size] at hyz; exact hyz)
  have HT := Lib.hid (fun W => title_any (str z) W hzz)
  have hans : titleL (lst s) = if b = true ∧ z ≠ y ∧ titB (str z) = true then some z else none := by
    unfold titleL
    rw [hb]
    by_cases h5 : (lst s).take 5 = titleP
    · rw [if_pos h5] at hy
      rw [← hy, ← hz]
      simp only [h5, true_and, decide_true]
    · rw [if_neg (fun e => h5 e.1), if_neg (fun e => h5 (by simpa using e.1))]
  have HA := Lib.hid hans
  have heq := str_eq_iff z y
  clear hy hb hz hyz hzz hans
  cases b with
  | false =>
    have HF := Lib.hid (show titleL (lst s) = none by rw [HA.out, if_neg (by simp)])
    go_enter Tryd.func30, Tryd.ntmps30
    go_wp2_with (first | (go_at_call 41; refine HC.out.mono ?_; rintro e w' ⟨rfl, rfl⟩) | (go_at_call 42; refine HL.out.mono ?_; rintro e w2 ⟨rfl, hb2⟩))
    go_ret2
    exact ⟨by rw [HF.out]; rfl, hb2⟩
  | true =>
    by_cases hzy : z = y
    · have HF := Lib.hid (show titleL (lst s) = none by rw [HA.out, if_neg (fun e => e.2.1 hzy)])
      have hq : ((str z).toList == (str y).toList) = true := by rw [heq]; simpa using hzy
      clear heq hzy
      go_enter Tryd.func30, Tryd.ntmps30
      go_wp2_with (first | (go_at_call 41; refine HC.out.mono ?_; rintro e w' ⟨rfl, rfl⟩) | (go_at_call 42; refine HL.out.mono ?_; rintro e w2 ⟨rfl, hb2⟩))
      go_ret2
      exact ⟨by rw [HF.out]; rfl, hb2⟩
    · have hq : ((str z).toList == (str y).toList) = false := by rw [heq]; simpa using hzy
      cases ht : titB (str z) with
      | false =>
        have HF := Lib.hid (show titleL (lst s) = none by rw [HA.out, if_neg (fun e => by rw [ht] at e; cases e.2.2)])
        rw [ht] at HT
        clear heq hzy ht
        go_enter Tryd.func30, Tryd.ntmps30
        go_wp2_with (first | (go_at_call 41; refine HC.out.mono ?_; rintro e w' ⟨rfl, rfl⟩) | (go_at_call 42; refine HL.out.mono ?_; rintro e w2 ⟨rfl, hb2⟩) | (go_at_call 43; refine (HT.out _).mono ?_; rintro e w3 ⟨rfl, hb3⟩))
        go_ret2
        exact ⟨by rw [HF.out]; rfl, hb2.trans (hb3.mono hb2.size)⟩
      | true =>
        have HF := Lib.hid (show titleL (lst s) = some z by rw [HA.out, if_pos ⟨rfl, hzy, ht⟩])
        rw [ht] at HT
        clear heq hzy ht
        go_enter Tryd.func30, Tryd.ntmps30
        go_wp2_with (first | (go_at_call 41; refine HC.out.mono ?_; rintro e w' ⟨rfl, rfl⟩) | (go_at_call 42; refine HL.out.mono ?_; rintro e w2 ⟨rfl, hb2⟩) | (go_at_call 43; refine (HT.out _).mono ?_; rintro e w3 ⟨rfl, hb3⟩))
        go_ret2
        exact ⟨by rw [HF.out]; rfl, hb2.trans (hb3.mono hb2.size)⟩
end Go.Proofs.YthidkkjhpdcenaaDoor
