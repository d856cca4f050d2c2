/- THE WALKS over package runes: plain, Valid, Title. -/
import Derived.Test.YtbmhdinaofepdaaRb
import Derived.Lib.Strings
namespace Go.Proofs.Ytbmhdinaofepdaa
open Go.RowKit

set_option maxHeartbeats 400000 in
theorem plain_any (s : ByteArray) (w : World) (hs : s.size ≤ maxLen) :
    Calls Try.prog 63 #[.string s] w fun e w' => e = .returned (.bool (plainR (rns s))) ∧ Below w.heap.size w w' := by
  unfold maxLen at hs
  go_enter Try.func63, Try.ntmps63
  go_wp2
  go_loopw [] (fun w' => ∃ (p : Nat), w' = w.iter s p ∧ p ≤ s.size ∧ plainR (rnsAt s p) = plainR (rns s)) (fun w' => s.size - w'.iterPos w.heap.size)
  case atStart => exact ⟨0, rfl, by omega, rfl⟩
  case round =>
    obtain ⟨p, rfl, hp, hl⟩ := hrel
    have HL := Lib.hid hl; clear hl
    by_cases h : p < s.size
    · have hnx : ∀ ty, (Instr.next (.pointer (some ⟨w.heap.size, 0, none⟩)) true ty).run Try.prog (w.iter s p) = _ := fun ty => run_next_any w s p ty h
      have h1 := dec_fits s p h
      have h2 := dec_pos s p
      have HS := Lib.hid (rnsAt_step h)
      by_cases ha : (Utf8.decode s p).1 < 32 ∨ (Utf8.decode s p).1 = 127
      · have hq : plainR (rns s) = false := by
          rw [← HL.out, HS.out]
          simp only [plainR, List.all_cons]
          rcases ha with ha | ha <;> simp [ha]
        have HQ := Lib.hid hq; clear hq
        by_cases hb : (Utf8.decode s p).1 < 32
        · have hb' : ((Utf8.decode s p).1 : Int) < 32 := by omega
          clear ha hb
          go_wp2
          go_ret
          exact ⟨by rw [HQ.out]; rfl, below_iter _ _ _⟩
        · have hc : (((Utf8.decode s p).1 : Int) == 127) = true := by have : (Utf8.decode s p).1 = 127 := by omega
                                                                      simp [this]
          have hb' : ¬ ((Utf8.decode s p).1 : Int) < 32 := by omega
          clear ha hb
          go_wp2
          go_ret
          exact ⟨by rw [HQ.out]; rfl, below_iter _ _ _⟩
      · have hb' : ¬ ((Utf8.decode s p).1 : Int) < 32 := by omega
        have hc : (((Utf8.decode s p).1 : Int) == 127) = false := by simp; omega
        have HQ := Lib.hid ha; clear ha
        go_wp2
        go_roundw
        case rel =>
          refine ⟨p + (Utf8.decode s p).2, rfl, h1, ?_⟩
          rw [← HL.out, HS.out]
          have := HQ.out
          simp only [plainR, List.all_cons]
          have e : (!(decide ((Utf8.decode s p).1 < 32) || (Utf8.decode s p).1 == 127)) = true := by simp; omega
          rw [e, Bool.true_and]
        case measure =>
          simp
          omega
    · have hnx : ∀ ty, (Instr.next (.pointer (some ⟨w.heap.size, 0, none⟩)) true ty).run Try.prog (w.iter s p) = _ := fun ty => run_next_end w s p ty h
      go_wp2
      go_ret
      refine ⟨?_, below_iter _ _ _⟩
      rw [← HL.out, rnsAt_end h]; rfl

/-- HasPrefix at a text of three bytes. -/
def pre3 (s : ByteArray) : Bool := decide (3 ≤ s.size) && decide ((s.extract 0 3).data.toList = [239, 191, 189])

set_option maxHeartbeats 400000 in
theorem prefix_in (s : ByteArray) (w : World) (hs : s.size ≤ maxLen) :
    Calls Try.prog 66 #[.string s, .string ⟨#[239, 191, 189]⟩] w fun e w' => e = .returned (.bool (pre3 s)) ∧ w = w' := by
  unfold maxLen at hs
  by_cases h : 3 ≤ s.size
  · have h' : (3 : Int) ≤ (s.size : Int) := by omega
    have H := Lib.hid h; clear h
    go_enter Try.func66, Try.ntmps66
    go_wp2
    go_ret
    refine ⟨?_, rfl⟩
    have h := H.out
    rw [Lib.toList_data]
    simp only [pre3, h, decide_true, Bool.true_and]
    have e : ∀ x y : List UInt8, (x == y) = decide (x = y) := fun x y => by rw [Bool.eq_iff_iff]; simp
    rw [e]; rfl
  · have h' : ¬ (3 : Int) ≤ (s.size : Int) := by omega
    have H := Lib.hid h; clear h
    go_enter Try.func66, Try.ntmps66
    go_wp2
    go_ret
    refine ⟨?_, rfl⟩
    have h := H.out
    simp [pre3, h]

set_option maxHeartbeats 400000 in
theorem prefix_any (s : ByteArray) (w : World) (hs : s.size ≤ maxLen) :
    Calls Try.prog 65 #[.string s, .string ⟨#[239, 191, 189]⟩] w fun e w' => e = .returned (.bool (pre3 s)) ∧ w = w' := by
  go_enter Try.func65, Try.ntmps65
  go_wp2_with (go_at_call 66; refine (prefix_in _ _ hs).mono ?_; rintro e w' ⟨rfl, rfl⟩)
  go_ret
  exact ⟨rfl, rfl⟩

theorem bytes3 (s : ByteArray) (p : Nat) (h : p + 3 ≤ s.size) : ((s.extract p s.size).extract 0 3).data.toList = [s.get! p, s.get! (p + 1), s.get! (p + 2)] := by
  rw [data_extract, data_extract]
  apply List.ext_getElem?
  intro i
  have hl := size_len s
  rw [List.getElem?_drop, List.getElem?_take, List.getElem?_drop, List.getElem?_take, get!_eq, get!_eq, get!_eq]
  have g : ∀ j, j < s.size → s.data.toList[j]? = some ((s.data.toList[j]?).getD 0) := fun j hj => by
    rw [List.getElem?_eq_getElem (by omega)]; rfl
  rcases i with _ | _ | _ | i
  · have := g p (by omega); simp at this ⊢; exact ⟨by omega, this⟩
  · have := g (p + 1) (by omega); simp at this ⊢; exact ⟨by omega, this⟩
  · have := g (p + 2) (by omega); simp at this ⊢; exact ⟨by omega, this⟩
  · simp; omega

/-- A rune U+FFFD stands there as it is just if the text goes on with its three bytes. -/
theorem fffd_iff (s : ByteArray) (p : Nat) (h : p < s.size) (hr : (Utf8.decode s p).1 = 65533) : pre3 (s.extract p s.size) = okR (Utf8.decode s p) := by
  have h3 : okR (Utf8.decode s p) = ((Utf8.decode s p).2 == 3) := by simp [okR, hr]
  rw [h3]
  unfold pre3
  rw [size_tail]
  have b0 := (s.get! p).toNat_lt
  have b1 := (s.get! (p + 1)).toNat_lt
  have b2 := (s.get! (p + 2)).toNat_lt
  have b3 := (s.get! (p + 3)).toNat_lt
  rw [Lib.decode_at] at hr ⊢
  by_cases hz : 3 ≤ s.size - p
  · rw [bytes3 s p (by omega)]
    have e : (decide ([s.get! p, s.get! (p + 1), s.get! (p + 2)] = [239, 191, 189])) = decide ((s.get! p).toNat = 239 ∧ (s.get! (p + 1)).toNat = 191 ∧ (s.get! (p + 2)).toNat = 189) := by
      simp [← UInt8.toNat_inj]
    rw [e]
    generalize (s.get! p).toNat = c0 at *
    generalize (s.get! (p + 1)).toNat = c1 at *
    generalize (s.get! (p + 2)).toNat = c2 at *
    generalize (s.get! (p + 3)).toNat = c3 at *
    generalize s.size - p = n at *
    unfold Lib.decodeN at hr ⊢
    repeat' split
    all_goals simp_all
    all_goals omega
  · generalize (s.get! p).toNat = c0 at *
    generalize (s.get! (p + 1)).toNat = c1 at *
    generalize (s.get! (p + 2)).toNat = c2 at *
    generalize (s.get! (p + 3)).toNat = c3 at *
    generalize s.size - p = n at *
    unfold Lib.decodeN at hr ⊢
    repeat' split
    all_goals simp_all
    all_goals omega

set_option maxHeartbeats 400000 in
theorem valid_any (s : ByteArray) (w : World) (hs : s.size ≤ maxLen) :
    Calls Try.prog 62 #[.string s] w fun e w' => e = .returned (.bool (good (rns s))) ∧ Below w.heap.size w w' := by
  have hm := hs
  unfold maxLen at hs
  go_enter Try.func62, Try.ntmps62
  go_wp2
  go_loopw [] (fun w' => ∃ (p : Nat), w' = w.iter s p ∧ p ≤ s.size ∧ good (rnsAt s p) = good (rns s)) (fun w' => s.size - w'.iterPos w.heap.size)
  case atStart => exact ⟨0, rfl, by omega, rfl⟩
  case round =>
    obtain ⟨p, rfl, hp, hl⟩ := hrel
    have HL := Lib.hid hl; clear hl
    by_cases h : p < s.size
    · have hnx : ∀ ty, (Instr.next (.pointer (some ⟨w.heap.size, 0, none⟩)) true ty).run Try.prog (w.iter s p) = _ := fun ty => run_next_any w s p ty h
      have h1 := dec_fits s p h
      have h2 := dec_pos s p
      have HS := Lib.hid (rnsAt_step h)
      have hg : good (rns s) = (okR (Utf8.decode s p) && good (rnsAt s (p + (Utf8.decode s p).2))) := by
        rw [← HL.out, HS.out]; simp [good]
      have HG := Lib.hid hg; clear hg
      by_cases hr : (Utf8.decode s p).1 = 65533
      · have HF := Lib.hid (fffd_iff s p h hr)
        have hc : (((Utf8.decode s p).1 : Int) == 65533) = true := by simp [hr]
        clear hr
        have ht : (s.extract p s.size).size ≤ maxLen := by rw [size_tail]; omega
        have HT := Lib.hid ht; clear ht
        by_cases hk : okR (Utf8.decode s p) = true
        · have hpr : pre3 (s.extract p s.size) = true := by rw [HF.out]; exact hk
          have HK := Lib.hid hk; clear hk
          go_wp2_with (go_at_call 65; refine (prefix_any _ _ HT.out).mono ?_; rintro e w' ⟨rfl, rfl⟩)
          go_roundw
          case rel =>
            refine ⟨p + (Utf8.decode s p).2, rfl, h1, ?_⟩
            rw [HG.out, HK.out, Bool.true_and]
          case measure =>
            simp
            omega
        · have hpr : pre3 (s.extract p s.size) = false := by rw [HF.out]; simpa using hk
          have HK := Lib.hid hk; clear hk
          go_wp2_with (go_at_call 65; refine (prefix_any _ _ HT.out).mono ?_; rintro e w' ⟨rfl, rfl⟩)
          go_ret
          refine ⟨?_, below_iter _ _ _⟩
          have hk := HK.out
          rw [HG.out]
          simp at hk
          rw [hk]; rfl
      · have hc : (((Utf8.decode s p).1 : Int) == 65533) = false := by simp; omega
        have hk : okR (Utf8.decode s p) = true := by simp [okR, hr]
        have HK := Lib.hid hk; clear hk hr
        go_wp2
        go_roundw
        case rel =>
          refine ⟨p + (Utf8.decode s p).2, rfl, h1, ?_⟩
          rw [HG.out, HK.out, Bool.true_and]
        case measure =>
          simp
          omega
    · have hnx : ∀ ty, (Instr.next (.pointer (some ⟨w.heap.size, 0, none⟩)) true ty).run Try.prog (w.iter s p) = _ := fun ty => run_next_end w s p ty h
      go_wp2
      go_ret
      refine ⟨?_, below_iter _ _ _⟩
      rw [← HL.out, rnsAt_end h]; rfl

set_option maxHeartbeats 400000 in
theorem title_any (s : ByteArray) (w : World) (hs : s.size ≤ maxLen) :
    Calls Try.prog 59 #[.string s] w fun e w' => e = .returned (.bool (titB s)) ∧ Below w.heap.size w w' := by
  have ht : titB s = (decide (1 ≤ (rns s).length) && decide ((rns s).length ≤ 20) && good (rns s) && plainR (rns s)) := by
    unfold titB
    cases good (rns s) <;> simp
  have HT := Lib.hid ht; clear ht
  have HQ := Lib.hid hs; clear hs
  by_cases h1 : 1 ≤ (rns s).length
  · by_cases h2 : (rns s).length ≤ 20
    · have g1 : (1 : Int) ≤ ((rns s).length : Int) := by omega
      have g2 : ((rns s).length : Int) ≤ 20 := by omega
      have H1 := Lib.hid h1; clear h1
      have H2 := Lib.hid h2; clear h2
      cases hg : good (rns s) with
      | true =>
        go_enter Try.func59, Try.ntmps59
        go_wp2_with (first | (go_at_call 61; refine (count_any _ _ HQ.out).mono ?_; rintro e w1 ⟨rfl, hb1⟩) | (go_at_call 62; refine (valid_any _ _ HQ.out).mono ?_; rintro e w2 ⟨rfl, hb2⟩) | (go_at_call 63; refine (plain_any _ _ HQ.out).mono ?_; rintro e w3 ⟨rfl, hb3⟩))
        go_ret
        refine ⟨?_, (hb1.trans (hb2.mono hb1.size)).trans (hb3.mono (Nat.le_trans hb1.size hb2.size))⟩
        rw [HT.out]; simp [H1.out, H2.out, hg]
      | false =>
        go_enter Try.func59, Try.ntmps59
        go_wp2_with (first | (go_at_call 61; refine (count_any _ _ HQ.out).mono ?_; rintro e w1 ⟨rfl, hb1⟩) | (go_at_call 62; refine (valid_any _ _ HQ.out).mono ?_; rintro e w2 ⟨rfl, hb2⟩) | (go_at_call 63; refine (plain_any _ _ HQ.out).mono ?_; rintro e w3 ⟨rfl, hb3⟩))
        go_ret
        refine ⟨?_, hb1.trans (hb2.mono hb1.size)⟩
        rw [HT.out]; simp [hg]
    · have g1 : (1 : Int) ≤ ((rns s).length : Int) := by omega
      have g2 : ¬ ((rns s).length : Int) ≤ 20 := by omega
      have H2 := Lib.hid h2; clear h2 h1
      go_enter Try.func59, Try.ntmps59
      go_wp2_with (first | (go_at_call 61; refine (count_any _ _ HQ.out).mono ?_; rintro e w1 ⟨rfl, hb1⟩))
      go_ret
      refine ⟨?_, hb1⟩
      rw [HT.out]; simp [H2.out]
  · have g1 : ¬ (1 : Int) ≤ ((rns s).length : Int) := by omega
    have H1 := Lib.hid h1; clear h1
    go_enter Try.func59, Try.ntmps59
    go_wp2_with (first | (go_at_call 61; refine (count_any _ _ HQ.out).mono ?_; rintro e w1 ⟨rfl, hb1⟩))
    go_ret
    refine ⟨?_, hb1⟩
    have h1 := H1.out
    rw [HT.out]; simp [h1]
end Go.Proofs.Ytbmhdinaofepdaa
