/- texts of YpRa -/
import Derived.Deep.AppendLies
import Derived.Laws.RangeAny
import Derived.Lib.DecodeN
import Derived.Lib.Hide
import Derived.Lib.Strings
import Derived.Test.YtpnobpligchpiaaGreatDoorRows
import Derived.Test.YtpnobpligchpiaaGreatDoorYpK
import Derived.WalkKit
import Derived.WalkLawsBesides
import Derived.WalkSmall
import Derived.WalkSpells
namespace Go.Proofs.YtpnobpligchpiaaGreatDoor
theorem dec_pos (s : ByteArray) (p : Nat) : 1 ≤ (Utf8.decode s p).2 := by
 rw [Lib.decode_at]; unfold Lib.decodeN
 repeat' split
 all_goals simp
theorem dec_fits (s : ByteArray) (p : Nat) (h : p < s.size) : p + (Utf8.decode s p).2 ≤ s.size := by
 rw [Lib.decode_at]; unfold Lib.decodeN
 repeat' split
 all_goals simp only
 all_goals omega
theorem get!_eq (s : ByteArray) (i : Nat) : s.get! i = (s.data.toList[i]?).getD 0 := by
 show s.data[i]! = _
 rw [getElem!_def]
 simp [Array.getElem?_toList]
 rcases s.data[i]? with _ | x <;> rfl
theorem data_extract (s : ByteArray) (a b : Nat) : (s.extract a b).data.toList = (s.data.toList.take b).drop a := by
 simp [ByteArray.data_extract, Array.toList_extract, List.drop_take]
theorem size_len (s : ByteArray) : s.size = s.data.toList.length := (Array.length_toList).symm
theorem get!_tail (s : ByteArray) (p q : Nat) : (s.extract p s.size).get! q = s.get! (p + q) := by
 rw [get!_eq, get!_eq, data_extract]
 rw [List.getElem?_drop, List.getElem?_take]
 by_cases h : p + q < s.size
 · rw [if_pos h]
 · rw [if_neg h, List.getElem?_eq_none (by rw [← size_len]; omega)]
theorem size_tail (s : ByteArray) (p : Nat) : (s.extract p s.size).size = s.size - p := by
 simp [ByteArray.size_extract]
theorem dec_tail (s : ByteArray) (p q : Nat) : Utf8.decode (s.extract p s.size) q = Utf8.decode s (p + q) := by
 simp only [Lib.decode_at, get!_tail, size_tail, Nat.add_assoc, Nat.sub_sub]
def scan (s : ByteArray) : Nat → Nat → List (Nat × Nat)
 | 0, _ => []
 | f + 1, p => if p < s.size then Utf8.decode s p :: scan s f (p + (Utf8.decode s p).2) else []
def rnsAt (s : ByteArray) (p : Nat) : List (Nat × Nat) := scan s (s.size - p) p
def rns (s : ByteArray) : List (Nat × Nat) := rnsAt s 0
theorem scan_more (s : ByteArray) : ∀ (f g p : Nat), s.size - p ≤ f → s.size - p ≤ g → scan s f p = scan s g p := by
 intro f
 induction f with
 | zero =>
   intro g p hf _
   cases g with
   | zero => rfl
   | succ g => simp only [scan]; rw [if_neg (by omega)]
 | succ f ih =>
   intro g p hf hg
   cases g with
   | zero => simp only [scan]; rw [if_neg (by omega)]
   | succ g =>
     simp only [scan]
     split
     · have := dec_pos s p
       rw [ih g _ (by omega) (by omega)]
     · rfl
theorem rnsAt_end {s : ByteArray} {p : Nat} (h : ¬ p < s.size) : rnsAt s p = [] := by
 unfold rnsAt
 rw [show s.size - p = 0 by omega]
 rfl
theorem rnsAt_step {s : ByteArray} {p : Nat} (h : p < s.size) : rnsAt s p = Utf8.decode s p :: rnsAt s (p + (Utf8.decode s p).2) := by
 unfold rnsAt
 have := dec_pos s p
 obtain ⟨f, hf⟩ : ∃ f, s.size - p = f + 1 := ⟨s.size - p - 1, by omega⟩
 rw [hf]
 simp only [scan]
 rw [if_pos h, scan_more s f (s.size - (p + (Utf8.decode s p).2)) _ (by omega) (by omega)]
theorem scan_tail (s : ByteArray) (p : Nat) : ∀ (f q : Nat), scan (s.extract p s.size) f q = scan s f (p + q) := by
 intro f
 induction f with
 | zero => intro q; rfl
 | succ f ih =>
   intro q
   simp only [scan, size_tail, dec_tail, ih]
   by_cases h : p + q < s.size
   · rw [if_pos h, if_pos (by omega), Nat.add_assoc]
   · rw [if_neg h, if_neg (by omega)]
theorem rnsAt_tail (s : ByteArray) (p q : Nat) : rnsAt (s.extract p s.size) q = rnsAt s (p + q) := by
 unfold rnsAt
 rw [size_tail, scan_tail, Nat.sub_sub]
theorem rns_step {s : ByteArray} (h : 0 < s.size) : rns s = Utf8.decode s 0 :: rns (s.extract (Utf8.decode s 0).2 s.size) := by
 unfold rns
 rw [rnsAt_step h, rnsAt_tail]
 simp
theorem rns_nil {s : ByteArray} (h : s.size = 0) : rns s = [] := rnsAt_end (by omega)
theorem rnsAt_len (s : ByteArray) : ∀ (n p : Nat), s.size - p ≤ n → p ≤ s.size → p + (rnsAt s p).length ≤ s.size := by
 intro n
 induction n with
 | zero => intro p h1 h2; rw [rnsAt_end (by omega)]; simpa using h2
 | succ n ih =>
   intro p h1 h2
   by_cases h : p < s.size
   · rw [rnsAt_step h, List.length_cons]
     have h3 := dec_fits s p h
     have h4 := dec_pos s p
     have := ih (p + (Utf8.decode s p).2) (by omega) h3
     omega
   · rw [rnsAt_end h]; simpa using h2
theorem rns_len (s : ByteArray) : (rns s).length ≤ s.size := by
 have := rnsAt_len s s.size 0 (by omega) (by omega)
 unfold rns; omega
def okR (x : Nat × Nat) : Bool := x.1 != 65533 || x.2 == 3
def good (l : List (Nat × Nat)) : Bool := l.all okR
def plainR (l : List (Nat × Nat)) : Bool := l.all fun x => !(decide (x.1 < 32) || x.1 == 127)
def titB (s : ByteArray) : Bool := good (rns s) && (decide (1 ≤ (rns s).length) && decide ((rns s).length ≤ 20)) && plainR (rns s)
def atR (s : ByteArray) (n : Int) : Int := if 0 ≤ n then (((rns s)[n.toNat]?).map fun x => (x.1 : Int)).getD 0 else 0
open Go.RowKit
theorem below_iter (w : World) (s : ByteArray) (p : Nat) : Below w.heap.size w (w.iter s p) := (bR _ _).alloc (nl _) _
set_option maxHeartbeats 400000 in
theorem rcount_any (s : ByteArray) (w : World) (hs : s.size ≤ maxLen) :
 Calls Tryz.prog 200 #[.string s] w fun e w' => e = .returned (.int .i64 ((rns s).length : Int)) ∧ Below w.heap.size w w' := by
 unfold maxLen at hs
 go_enter Tryz.func200, Tryz.ntmps200
 go_wp2
 go_loopw [3] (fun n w' => ∃ (p k : Nat), w' = w.iter s p ∧ n = .int .i64 k ∧ p ≤ s.size ∧ k ≤ p ∧ k + (rnsAt s p).length = (rns s).length) (fun _ w' => s.size - w'.iterPos w.heap.size)
 case atStart => exact ⟨0, 0, rfl, rfl, by omega, by omega, by simp [rns]⟩
 case round =>
  obtain ⟨p, k, rfl, rfl, hp, hk, hl⟩ := hrel
  by_cases h : p < s.size
  · have hnx : ∀ ty, (Instr.next (.pointer (some ⟨w.heap.size, 0, none⟩)) true ty).run Tryz.prog (w.iter s p) = _ := fun ty => run_next_any w s p ty h
    have HL := qh hl; clear hl
    go_wp2
    have h1 := dec_fits s p h
    have h2 := dec_pos s p
    go_roundw
    case rel =>
     refine ⟨p + (Utf8.decode s p).2, k + 1, rfl, by go_num, h1, by omega, ?_⟩
     rw [← HL.out, rnsAt_step h, List.length_cons]; omega
    case measure =>
     simp
     omega
  · have hnx : ∀ ty, (Instr.next (.pointer (some ⟨w.heap.size, 0, none⟩)) true ty).run Tryz.prog (w.iter s p) = _ := fun ty => run_next_end w s p ty h
    have HL := qh hl; clear hl
    go_wp2
    go_ret
    have e := HL.out
    rw [rnsAt_end h] at e
    exact ⟨by rw [← e]; simp, below_iter _ _ _⟩
set_option maxHeartbeats 400000 in
theorem at_any (s : ByteArray) (n : Int) (w : World) (hs : s.size ≤ maxLen) :
    Calls Tryz.prog 210 #[.string s, .int .i64 n] w fun e w' => e = .returned (.int .i32 (atR s n)) ∧ Below w.heap.size w w' := by
  unfold maxLen at hs
  go_enter Tryz.func210, Tryz.ntmps210
  go_wp2
  go_loopw [5] (fun v w' => ∃ (p k : Nat), w' = w.iter s p ∧ v = .int .i64 k ∧ p ≤ s.size ∧ k ≤ p ∧ (n < 0 ∨ k ≤ n) ∧ rnsAt s p = (rns s).drop k) (fun _ w' => s.size - w'.iterPos w.heap.size)
  case atStart => exact ⟨0, 0, rfl, rfl, by omega, by omega, by omega, by simp [rns]⟩
  case round =>
    obtain ⟨p, k, rfl, rfl, hp, hk, hn, hl⟩ := hrel
    have HL := qh hl; clear hl
    by_cases h : p < s.size
    · have hnx : ∀ ty, (Instr.next (.pointer (some ⟨w.heap.size, 0, none⟩)) true ty).run Tryz.prog (w.iter s p) = _ := fun ty => run_next_any w s p ty h
      have h1 := dec_fits s p h
      have h2 := dec_pos s p
      by_cases he : (k : Int) = n
      · subst he
        go_wp2
        go_ret
        refine ⟨?_, below_iter _ _ _⟩
        have e := HL.out
        rw [rnsAt_step h] at e
        have e2 : (rns s)[k]? = some (Utf8.decode s p) := by
          have := congrArg (·[0]?) e
          simpa using this.symm
        simp [atR, e2]
      · have hb : ((k : Int) == n) = false := by simpa using he
        go_wp2
        go_roundw
        case rel =>
          refine ⟨p + (Utf8.decode s p).2, k + 1, rfl, by go_num, h1, by omega, by omega, ?_⟩
          have e := HL.out
          rw [rnsAt_step h] at e
          have := congrArg List.tail e
          simpa using this
        case measure =>
          simp
          omega
    · have hnx : ∀ ty, (Instr.next (.pointer (some ⟨w.heap.size, 0, none⟩)) true ty).run Tryz.prog (w.iter s p) = _ := fun ty => run_next_end w s p ty h
      go_wp2
      go_ret
      refine ⟨?_, below_iter _ _ _⟩
      have e := HL.out
      rw [rnsAt_end h] at e
      have hlen : (rns s).length ≤ k := by
        have := congrArg List.length e
        simp at this
        omega
      by_cases h0 : 0 ≤ n
      · have : (rns s)[n.toNat]? = none := List.getElem?_eq_none (by omega)
        simp [atR, this]
      · simp [atR, h0]
set_option maxHeartbeats 400000 in
theorem plain_any (s : ByteArray) (w : World) (hs : s.size ≤ maxLen) :
 Calls Tryz.prog 202 #[.string s] w fun e w' => e = .returned (.bool (plainR (rns s))) ∧ Below w.heap.size w w' := by
 unfold maxLen at hs
 go_enter Tryz.func202, Tryz.ntmps202
 go_wp2
 go_loopw [] (fun w' => ∃ (p : Nat), w' = w.iter s p ∧ p ≤ s.size ∧ plainR (rnsAt s p) = plainR (rns s)) (fun w' => s.size - w'.iterPos w.heap.size)
 case atStart => exact ⟨0, rfl, by omega, rfl⟩
 case round =>
  obtain ⟨p, rfl, hp, hl⟩ := hrel
  have HL := qh hl; clear hl
  by_cases h : p < s.size
  · have hnx : ∀ ty, (Instr.next (.pointer (some ⟨w.heap.size, 0, none⟩)) true ty).run Tryz.prog (w.iter s p) = _ := fun ty => run_next_any w s p ty h
    have h1 := dec_fits s p h
    have h2 := dec_pos s p
    have HS := qh (rnsAt_step h)
    by_cases ha : (Utf8.decode s p).1 < 32 ∨ (Utf8.decode s p).1 = 127
    · have hq : plainR (rns s) = false := by
       rw [← HL.out, HS.out]
       simp only [plainR, List.all_cons]
       rcases ha with ha | ha <;> simp [ha]
      have HQ := qh hq; clear hq
      by_cases hb : (Utf8.decode s p).1 < 32
      · have hb' : ((Utf8.decode s p).1 : Int) < 32 := by omega
        clear ha hb
        go_wp2
        go_ret
        exact ⟨by rw [HQ.out]; rfl, below_iter _ _ _⟩
      · have hc : (((Utf8.decode s p).1 : Int) == 127) = true := by have : (Utf8.decode s p).1 = 127 := by omega
                                                                    simp [this]
        have hb' : ¬ ((Utf8.decode s p).1 : Int) < 32 := by omega
        clear ha hb
        go_wp2
        go_ret
        exact ⟨by rw [HQ.out]; rfl, below_iter _ _ _⟩
    · have hb' : ¬ ((Utf8.decode s p).1 : Int) < 32 := by omega
      have hc : (((Utf8.decode s p).1 : Int) == 127) = false := by simp; omega
      have HQ := qh ha; clear ha
      go_wp2
      go_roundw
      case rel =>
       refine ⟨p + (Utf8.decode s p).2, rfl, h1, ?_⟩
       rw [← HL.out, HS.out]
       have := HQ.out
       simp only [plainR, List.all_cons]
       have e : (!(decide ((Utf8.decode s p).1 < 32) || (Utf8.decode s p).1 == 127)) = true := by simp; omega
       rw [e, Bool.true_and]
      case measure =>
       simp
       omega
  · have hnx : ∀ ty, (Instr.next (.pointer (some ⟨w.heap.size, 0, none⟩)) true ty).run Tryz.prog (w.iter s p) = _ := fun ty => run_next_end w s p ty h
    go_wp2
    go_ret
    refine ⟨?_, below_iter _ _ _⟩
    rw [← HL.out, rnsAt_end h]; rfl
def pre3 (s : ByteArray) : Bool := decide (3 ≤ s.size) && decide ((s.extract 0 3).data.toList = [239, 191, 189])
set_option maxHeartbeats 400000 in
theorem prefix_in (s : ByteArray) (w : World) (hs : s.size ≤ maxLen) :
 Calls Tryz.prog 213 #[.string s, .string ⟨#[239, 191, 189]⟩] w fun e w' => e = .returned (.bool (pre3 s)) ∧ w = w' := by
 unfold maxLen at hs
 by_cases h : 3 ≤ s.size
 · have h' : (3 : Int) ≤ (s.size : Int) := by omega
   have H := qh h; clear h
   go_enter Tryz.func213, Tryz.ntmps213
   go_wp2
   go_ret
   refine ⟨?_, rfl⟩
   have h := H.out
   rw [Lib.toList_data]
   simp only [pre3, h, decide_true, Bool.true_and]
   have e : ∀ x y : List UInt8, (x == y) = decide (x = y) := fun x y => by rw [Bool.eq_iff_iff]; simp
   rw [e]; rfl
 · have h' : ¬ (3 : Int) ≤ (s.size : Int) := by omega
   have H := qh h; clear h
   go_enter Tryz.func213, Tryz.ntmps213
   go_wp2
   go_ret
   refine ⟨?_, rfl⟩
   have h := H.out
   simp [pre3, h]
set_option maxHeartbeats 400000 in
theorem prefix_any (s : ByteArray) (w : World) (hs : s.size ≤ maxLen) :
 Calls Tryz.prog 207 #[.string s, .string ⟨#[239, 191, 189]⟩] w fun e w' => e = .returned (.bool (pre3 s)) ∧ w = w' := by
 go_enter Tryz.func207, Tryz.ntmps207
 go_wp2_with (go_at_call 213; refine (prefix_in _ _ hs).mono ?_; rintro e w' ⟨rfl, rfl⟩)
 go_ret
 exact ⟨rfl, rfl⟩
theorem bytes3 (s : ByteArray) (p : Nat) (h : p + 3 ≤ s.size) : ((s.extract p s.size).extract 0 3).data.toList = [s.get! p, s.get! (p + 1), s.get! (p + 2)] := by
 rw [data_extract, data_extract]
 apply List.ext_getElem?
 intro i
 have hl := size_len s
 rw [List.getElem?_drop, List.getElem?_take, List.getElem?_drop, List.getElem?_take, get!_eq, get!_eq, get!_eq]
 have g : ∀ j, j < s.size → s.data.toList[j]? = some ((s.data.toList[j]?).getD 0) := fun j hj => by
  rw [List.getElem?_eq_getElem (by omega)]; rfl
 rcases i with _ | _ | _ | i
 · have := g p (by omega); simp at this ⊢; exact ⟨by omega, this⟩
 · have := g (p + 1) (by omega); simp at this ⊢; exact ⟨by omega, this⟩
 · have := g (p + 2) (by omega); simp at this ⊢; exact ⟨by omega, this⟩
 · simp; omega
theorem fffd_iff (s : ByteArray) (p : Nat) (h : p < s.size) (hr : (Utf8.decode s p).1 = 65533) : pre3 (s.extract p s.size) = okR (Utf8.decode s p) := by
 have h3 : okR (Utf8.decode s p) = ((Utf8.decode s p).2 == 3) := by simp [okR, hr]
 rw [h3]
 unfold pre3
 rw [size_tail]
 have b0 := (s.get! p).toNat_lt
 have b1 := (s.get! (p + 1)).toNat_lt
 have b2 := (s.get! (p + 2)).toNat_lt
 have b3 := (s.get! (p + 3)).toNat_lt
 rw [Lib.decode_at] at hr ⊢
 by_cases hz : 3 ≤ s.size - p
 · rw [bytes3 s p (by omega)]
   have e : (decide ([s.get! p, s.get! (p + 1), s.get! (p + 2)] = [239, 191, 189])) = decide ((s.get! p).toNat = 239 ∧ (s.get! (p + 1)).toNat = 191 ∧ (s.get! (p + 2)).toNat = 189) := by
    simp [← UInt8.toNat_inj]
   rw [e]
   generalize (s.get! p).toNat = c0 at *
   generalize (s.get! (p + 1)).toNat = c1 at *
   generalize (s.get! (p + 2)).toNat = c2 at *
   generalize (s.get! (p + 3)).toNat = c3 at *
   generalize s.size - p = n at *
   unfold Lib.decodeN at hr ⊢
   repeat' split
   all_goals simp_all
   all_goals omega
 · generalize (s.get! p).toNat = c0 at *
   generalize (s.get! (p + 1)).toNat = c1 at *
   generalize (s.get! (p + 2)).toNat = c2 at *
   generalize (s.get! (p + 3)).toNat = c3 at *
   generalize s.size - p = n at *
   unfold Lib.decodeN at hr ⊢
   repeat' split
   all_goals simp_all
   all_goals omega
set_option maxHeartbeats 400000 in
theorem valid_any (s : ByteArray) (w : World) (hs : s.size ≤ maxLen) :
 Calls Tryz.prog 201 #[.string s] w fun e w' => e = .returned (.bool (good (rns s))) ∧ Below w.heap.size w w' := by
 have hm := hs
 unfold maxLen at hs
 go_enter Tryz.func201, Tryz.ntmps201
 go_wp2
 go_loopw [] (fun w' => ∃ (p : Nat), w' = w.iter s p ∧ p ≤ s.size ∧ good (rnsAt s p) = good (rns s)) (fun w' => s.size - w'.iterPos w.heap.size)
 case atStart => exact ⟨0, rfl, by omega, rfl⟩
 case round =>
  obtain ⟨p, rfl, hp, hl⟩ := hrel
  have HL := qh hl; clear hl
  by_cases h : p < s.size
  · have hnx : ∀ ty, (Instr.next (.pointer (some ⟨w.heap.size, 0, none⟩)) true ty).run Tryz.prog (w.iter s p) = _ := fun ty => run_next_any w s p ty h
    have h1 := dec_fits s p h
    have h2 := dec_pos s p
    have HS := qh (rnsAt_step h)
    have hg : good (rns s) = (okR (Utf8.decode s p) && good (rnsAt s (p + (Utf8.decode s p).2))) := by
     rw [← HL.out, HS.out]; simp [good]
    have HG := qh hg; clear hg
    by_cases hr : (Utf8.decode s p).1 = 65533
    · have HF := qh (fffd_iff s p h hr)
      have hc : (((Utf8.decode s p).1 : Int) == 65533) = true := by simp [hr]
      clear hr
      have ht : (s.extract p s.size).size ≤ maxLen := by rw [size_tail]; omega
      have HT := qh ht; clear ht
      by_cases hk : okR (Utf8.decode s p) = true
      · have hpr : pre3 (s.extract p s.size) = true := by rw [HF.out]; exact hk
        have HK := qh hk; clear hk
        go_wp2_with (go_at_call 207; refine (prefix_any _ _ HT.out).mono ?_; rintro e w' ⟨rfl, rfl⟩)
        go_roundw
        case rel =>
         refine ⟨p + (Utf8.decode s p).2, rfl, h1, ?_⟩
         rw [HG.out, HK.out, Bool.true_and]
        case measure =>
         simp
         omega
      · have hpr : pre3 (s.extract p s.size) = false := by rw [HF.out]; simpa using hk
        have HK := qh hk; clear hk
        go_wp2_with (go_at_call 207; refine (prefix_any _ _ HT.out).mono ?_; rintro e w' ⟨rfl, rfl⟩)
        go_ret
        refine ⟨?_, below_iter _ _ _⟩
        have hk := HK.out
        rw [HG.out]
        simp at hk
        rw [hk]; rfl
    · have hc : (((Utf8.decode s p).1 : Int) == 65533) = false := by simp; omega
      have hk : okR (Utf8.decode s p) = true := by simp [okR, hr]
      have HK := qh hk; clear hk hr
      go_wp2
      go_roundw
      case rel =>
       refine ⟨p + (Utf8.decode s p).2, rfl, h1, ?_⟩
       rw [HG.out, HK.out, Bool.true_and]
      case measure =>
       simp
       omega
  · have hnx : ∀ ty, (Instr.next (.pointer (some ⟨w.heap.size, 0, none⟩)) true ty).run Tryz.prog (w.iter s p) = _ := fun ty => run_next_end w s p ty h
    go_wp2
    go_ret
    refine ⟨?_, below_iter _ _ _⟩
    rw [← HL.out, rnsAt_end h]; rfl
set_option maxHeartbeats 400000 in
theorem title_any (s : ByteArray) (w : World) (hs : s.size ≤ maxLen) :
 Calls Tryz.prog 193 #[.string s] w fun e w' => e = .returned (.bool (titB s)) ∧ Below w.heap.size w w' := by
 have ht : titB s = (decide (1 ≤ (rns s).length) && decide ((rns s).length ≤ 20) && good (rns s) && plainR (rns s)) := by
  unfold titB
  cases good (rns s) <;> simp
 have HT := qh ht; clear ht
 have HQ := qh hs; clear hs
 by_cases h1 : 1 ≤ (rns s).length
 · by_cases h2 : (rns s).length ≤ 20
   · have g1 : (1 : Int) ≤ ((rns s).length : Int) := by omega
     have g2 : ((rns s).length : Int) ≤ 20 := by omega
     have H1 := qh h1; clear h1
     have H2 := qh h2; clear h2
     cases hg : good (rns s) with
     | true =>
       go_enter Tryz.func193, Tryz.ntmps193
       go_wp2_with (first | (go_at_call 200; refine (rcount_any _ _ HQ.out).mono ?_; rintro e w1 ⟨rfl, hb1⟩) | (go_at_call 201; refine (valid_any _ _ HQ.out).mono ?_; rintro e w2 ⟨rfl, hb2⟩) | (go_at_call 202; refine (plain_any _ _ HQ.out).mono ?_; rintro e w3 ⟨rfl, hb3⟩))
       go_ret
       refine ⟨?_, (hb1.trans (hb2.mono hb1.size)).trans (hb3.mono (Nat.le_trans hb1.size hb2.size))⟩
       rw [HT.out]; simp [H1.out, H2.out, hg]
     | false =>
       go_enter Tryz.func193, Tryz.ntmps193
       go_wp2_with (first | (go_at_call 200; refine (rcount_any _ _ HQ.out).mono ?_; rintro e w1 ⟨rfl, hb1⟩) | (go_at_call 201; refine (valid_any _ _ HQ.out).mono ?_; rintro e w2 ⟨rfl, hb2⟩) | (go_at_call 202; refine (plain_any _ _ HQ.out).mono ?_; rintro e w3 ⟨rfl, hb3⟩))
       go_ret
       refine ⟨?_, hb1.trans (hb2.mono hb1.size)⟩
       rw [HT.out]; simp [hg]
   · have g1 : (1 : Int) ≤ ((rns s).length : Int) := by omega
     have g2 : ¬ ((rns s).length : Int) ≤ 20 := by omega
     have H2 := qh h2; clear h2 h1
     go_enter Tryz.func193, Tryz.ntmps193
     go_wp2_with (first | (go_at_call 200; refine (rcount_any _ _ HQ.out).mono ?_; rintro e w1 ⟨rfl, hb1⟩))
     go_ret
     refine ⟨?_, hb1⟩
     rw [HT.out]; simp [H2.out]
 · have g1 : ¬ (1 : Int) ≤ ((rns s).length : Int) := by omega
   have H1 := qh h1; clear h1
   go_enter Tryz.func193, Tryz.ntmps193
   go_wp2_with (first | (go_at_call 200; refine (rcount_any _ _ HQ.out).mono ?_; rintro e w1 ⟨rfl, hb1⟩))
   go_ret
   refine ⟨?_, hb1⟩
   have h1 := H1.out
   rw [HT.out]; simp [h1]
def byt (s : ByteArray) (k : Nat) : Nat := (s.get! k).toNat
theorem byt_at (s : ByteArray) (k : Nat) (h : k < s.size) : (s[k]'h).toNat = byt s k := by
 unfold byt; rw [← get_at s k h, Nat.add_zero]
theorem byt_lt (s : ByteArray) (k : Nat) : byt s k < 256 := (s.get! k).toNat_lt
theorem not_empty (s : ByteArray) (h : 0 < s.size) : s.toList.isEmpty = false := by
 rw [Lib.toList_data]
 have := size_len s
 cases e : s.data.toList with
 | nil => rw [e, List.length_nil] at this; omega
 | cons => rfl
def dec0 (s : ByteArray) : Value := .tuple #[.int .i32 (Utf8.decode s 0).1, .int .i64 (Utf8.decode s 0).2]
theorem decode0 (s : ByteArray) : Utf8.decode s 0 = Lib.decodeN s.size (byt s 0) (byt s 1) (byt s 2) (byt s 3) := by
 have := Lib.decode_at s 0
 simpa [byt] using this
def accK (s : ByteArray) (r0 : Int) : Nat → Int
 | 0 => r0
 | 1 => r0
 | k + 2 => accK s r0 (k + 1) * 64 + byt s (k + 1) - 128
theorem accK_succ (s : ByteArray) (r0 : Int) (k : Nat) (h : 1 ≤ k) : accK s r0 (k + 1) = accK s r0 k * 64 + byt s k - 128 := by
 obtain ⟨j, rfl⟩ : ∃ j, k = j + 1 := ⟨k - 1, by omega⟩
 rfl
def cont (s : ByteArray) (k : Nat) : Prop := 128 ≤ byt s k ∧ byt s k ≤ 191
def conts (s : ByteArray) (k : Nat) : Prop := ∀ j, 1 ≤ j → j < k → cont s j
def bnd : Nat → Int
 | 1 => 32
 | 2 => 2048
 | 3 => 131072
 | _ => 8388608
theorem bnd_le (k : Nat) (h0 : 1 ≤ k) (h : k ≤ 3) : bnd k ≤ 131072 := by
 obtain rfl | rfl | rfl : k = 1 ∨ k = 2 ∨ k = 3 := by omega
 all_goals simp [bnd]
theorem bnd_succ (k : Nat) (z b : Int) (h0 : 1 ≤ k) (h : k ≤ 3) (hz : z < bnd k) (hb : b ≤ 191) : z * 64 + b - 128 < bnd (k + 1) := by
 obtain rfl | rfl | rfl : k = 1 ∨ k = 2 ∨ k = 3 := by omega
 all_goals (simp [bnd] at hz ⊢; omega)
set_option maxRecDepth 100000 in
set_option maxHeartbeats 400000 in
theorem decode_1 (s : ByteArray) (w : World) (_hs : s.size ≤ maxLen) (h0 : 0 < s.size) (hb : byt s 0 < 128) :
 Calls Tryz.prog 167 #[.string s] w fun e w' => e = .returned (dec0 s) ∧ w = w' := by
 have hne : s.toList.isEmpty = false := not_empty s h0
 have h1 : ((s[0]'h0).toNat : Int) < 128 := by rw [byt_at]; omega
 have HB := qh hb; clear hb
 go_enter Tryz.func167, Tryz.ntmps167
 go_wp2
 go_ret2
 refine ⟨?_, rfl⟩
 have e : Utf8.decode s 0 = (byt s 0, 1) := by rw [decode0]; unfold Lib.decodeN; rw [if_pos HB.out]
 unfold dec0
 rw [e, ← byt_at s 0 h0]
 rfl
set_option maxRecDepth 100000 in
set_option maxHeartbeats 400000 in
theorem decode_0 (s : ByteArray) (w : World) (_hs : s.size ≤ maxLen) (h0 : 0 < s.size) (hb : (128 ≤ byt s 0 ∧ byt s 0 < 192) ∨ 248 ≤ byt s 0) :
 Calls Tryz.prog 167 #[.string s] w fun e w' => e = .returned (dec0 s) ∧ w = w' := by
 have hne : s.toList.isEmpty = false := not_empty s h0
 have hd : dec0 s = .tuple #[.int .i32 65533, .int .i64 1] := by
  have e : Utf8.decode s 0 = (65533, 1) := by
   rw [decode0]; unfold Lib.decodeN
   repeat' split
   all_goals first | rfl | omega
  unfold dec0; rw [e]; rfl
 have HD := qh hd; clear hd
 have hlt := byt_lt s 0
 rcases hb with hb | hb
 · have h1 : 128 ≤ ((s[0]'h0).toNat : Int) := by rw [byt_at]; omega
   have h2 : ((s[0]'h0).toNat : Int) < 192 := by rw [byt_at]; omega
   clear hb hlt
   go_enter Tryz.func167, Tryz.ntmps167
   go_wp2
   go_ret2
   exact ⟨by rw [HD.out]; rfl, rfl⟩
 · have h1 : 248 ≤ ((s[0]'h0).toNat : Int) := by rw [byt_at]; omega
   clear hb hlt
   go_enter Tryz.func167, Tryz.ntmps167
   go_wp2
   go_ret2
   exact ⟨by rw [HD.out]; rfl, rfl⟩
theorem dbad_2 (s : ByteArray) (hb : 192 ≤ byt s 0 ∧ byt s 0 < 224) (h : s.size < 2 ∨ ¬ conts s 2) : Utf8.decode s 0 = (65533, 1) := by
 have hc : s.size < 2 ∨ ¬ cont s 1 := by
  rcases h with h | h
  · exact .inl h
  · refine .inr (Classical.byContradiction fun hn => h fun j h1 h2 => ?_)
    have hj : j = 1 := by omega
    subst hj; exact Classical.byContradiction fun hk => hn hk
 unfold cont at hc
 have l1 := byt_lt s 1
 have l2 := byt_lt s 2
 have l3 := byt_lt s 3
 rw [decode0]; unfold Lib.decodeN
 repeat' split
 all_goals first | rfl | omega
theorem dfin_2 (s : ByteArray) (hb : 192 ≤ byt s 0 ∧ byt s 0 < 224) (hs : 2 ≤ s.size) (h : conts s 2) (z : Int) (hz : z = accK s (byt s 0 - 192) 2) :
 ((z < 128 ∨ z > 1114111 ∨ (55296 ≤ z ∧ z < 57344)) → Utf8.decode s 0 = (65533, 1)) ∧ (¬ (z < 128 ∨ z > 1114111 ∨ (55296 ≤ z ∧ z < 57344)) → Utf8.decode s 0 = (z.toNat, 2)) := by
 have c1 := h 1 (by omega) (by omega)
 unfold cont at c1
 simp only [accK] at hz
 rw [decode0]
 generalize byt s 0 = b0 at *
 generalize byt s 1 = b1 at *
 generalize byt s 2 = b2 at *
 generalize byt s 3 = b3 at *
 constructor
 · intro hh
   unfold Lib.decodeN
   repeat' split
   all_goals first | rfl | omega
 · intro hh
   unfold Lib.decodeN
   repeat' split
   all_goals first | omega | (apply Prod.ext <;> simp only <;> omega)
set_option maxRecDepth 100000 in
set_option maxHeartbeats 1000000 in
theorem decode_2 (s : ByteArray) (w : World) (hs : s.size ≤ maxLen) (h0 : 0 < s.size) (hb : 192 ≤ byt s 0 ∧ byt s 0 < 224) :
 Calls Tryz.prog 167 #[.string s] w fun e w' => e = .returned (dec0 s) ∧ w = w' := by
 unfold maxLen at hs
 have hne : s.toList.isEmpty = false := not_empty s h0
 have h1 : 192 ≤ ((s[0]'h0).toNat : Int) := by rw [byt_at]; omega
 have h2 : ((s[0]'h0).toNat : Int) < 224 := by rw [byt_at]; omega
 have HB := qh hb; clear hb
 by_cases hz : s.size < 2
 · have hz' : (s.size : Int) < 2 := by omega
   have HD := qh (dbad_2 s HB.out (.inl hz)); clear hz
   go_enter Tryz.func167, Tryz.ntmps167
   go_wp2
   go_ret2
   exact ⟨by unfold dec0; rw [HD.out]; rfl, rfl⟩
 · have hz' : ¬ (s.size : Int) < 2 := by omega
   go_enter Tryz.func167, Tryz.ntmps167
   go_wp2
   go_loop [7, 8] (fun r i => ∃ (k : Nat) (z : Int), 1 ≤ k ∧ k ≤ 2 ∧ i = .int .i64 k ∧ r = .int .i32 z ∧ 0 ≤ z ∧ z < bnd k ∧ Hid (z = accK s (byt s 0 - 192) k) ∧ Hid (conts s k)) (fun _ i => 2 - (intOf i).toNat)
   case atStart =>
    have hb := HB.out
    exact ⟨1, ((s[0]'h0).toNat : Int) - 192, by omega, by omega, rfl, rfl, by omega, by simp only [bnd]; omega, by unfold Hid; rw [byt_at]; rfl, fun j _ _ => by omega⟩
   case round =>
    obtain ⟨k, z, hk1, hk2, rfl, rfl, hz0, hz1, HZ, HC⟩ := hrel
    by_cases hk : k < 2
    · have hks : k < s.size := by omega
      have hz2 : z < 131072 := by have := bnd_le k hk1 (by omega); omega
      have hlt := byt_lt s k
      have HZ1 := qh hz1; clear hz1
      by_cases hc : cont s k
      · have hc1 : 128 ≤ ((s[k]'hks).toNat : Int) := by rw [byt_at]; unfold cont at hc; omega
        have hc2 : ((s[k]'hks).toNat : Int) ≤ 191 := by rw [byt_at]; unfold cont at hc; omega
        have HCK := qh hc; clear hc
        clear hlt
        go_wp2
        go_round
        case rel =>
         refine ⟨k + 1, z * 64 + (s[k]'hks).toNat - 128, by omega, by omega, by go_num, rfl, by omega, bnd_succ k z _ hk1 (by omega) HZ1.out hc2, ?_, ?_⟩
         · unfold Hid; rw [accK_succ _ _ _ hk1, byt_at, ← HZ.out]
         · intro j j1 j2
           by_cases hj : j = k
           · subst hj; exact HCK.out
           · exact HC.out j j1 (by omega)
        case measure => simp [intOf]; omega
      · have HD : Hid (Utf8.decode s 0 = (65533, 1)) := dbad_2 s HB.out (.inr fun h => hc (h k hk1 hk))
        by_cases hlo : byt s k < 128
        · have hc1 : ((s[k]'hks).toNat : Int) < 128 := by rw [byt_at]; omega
          clear hc hlo hlt
          go_wp2
          go_ret2
          exact ⟨by unfold dec0; rw [HD.out]; rfl, rfl⟩
        · have hc1 : 128 ≤ ((s[k]'hks).toNat : Int) := by rw [byt_at]; omega
          have hc2 : 191 < ((s[k]'hks).toNat : Int) := by rw [byt_at]; unfold cont at hc; omega
          clear hc hlo hlt
          go_wp2
          go_ret2
          exact ⟨by unfold dec0; rw [HD.out]; rfl, rfl⟩
    · obtain rfl : k = 2 := by omega
      obtain ⟨f1, f2⟩ := dfin_2 s HB.out (by omega) HC.out z HZ.out
      by_cases hbad : z < 128 ∨ z > 1114111 ∨ (55296 ≤ z ∧ z < 57344)
      · have HD := qh (f1 hbad)
        clear f1 f2
        by_cases g1 : z < 128
        · clear hbad
          go_wp2
          go_ret2
          exact ⟨by unfold dec0; rw [HD.out]; rfl, rfl⟩
        · by_cases g2 : z > 1114111
          · clear hbad
            go_wp2
            go_ret2
            exact ⟨by unfold dec0; rw [HD.out]; rfl, rfl⟩
          · have g3 : 55296 ≤ z := by omega
            have g4 : z < 57344 := by omega
            clear hbad
            go_wp2
            go_ret2
            exact ⟨by unfold dec0; rw [HD.out]; rfl, rfl⟩
      · have HD := qh (f2 hbad)
        clear f1 f2
        have g1 : ¬ z < 128 := by omega
        have g2 : ¬ z > 1114111 := by omega
        have hfin : dec0 s = .tuple #[.int .i32 z, .int .i64 2] := by
         unfold dec0; rw [HD.out]; simp only; rw [Int.toNat_of_nonneg hz0]; rfl
        have HF := qh hfin; clear hfin
        by_cases g3 : z < 55296
        · have g3' : ¬ 55296 ≤ z := by omega
          clear hbad
          go_wp2
          go_ret2
          exact ⟨by rw [HF.out]; rfl, rfl⟩
        · have g3' : 55296 ≤ z := by omega
          have g4 : ¬ z < 57344 := by omega
          clear hbad
          go_wp2
          go_ret2
          exact ⟨by rw [HF.out]; rfl, rfl⟩
theorem dbad_3 (s : ByteArray) (hb : 224 ≤ byt s 0 ∧ byt s 0 < 240) (h : s.size < 3 ∨ ¬ conts s 3) : Utf8.decode s 0 = (65533, 1) := by
 have hc : s.size < 3 ∨ ¬ cont s 1 ∨ ¬ cont s 2 := by
  rcases h with h | h
  · exact .inl h
  · refine .inr (Classical.byContradiction fun hn => h fun j h1 h2 => ?_)
    have hj : j = 1 ∨ j = 2 := by omega
    rcases hj with rfl | rfl
    all_goals exact Classical.byContradiction fun hk => hn (by simp [hk])
 unfold cont at hc
 have l1 := byt_lt s 1
 have l2 := byt_lt s 2
 have l3 := byt_lt s 3
 rw [decode0]; unfold Lib.decodeN
 repeat' split
 all_goals first | rfl | omega
theorem dfin_3 (s : ByteArray) (hb : 224 ≤ byt s 0 ∧ byt s 0 < 240) (hs : 3 ≤ s.size) (h : conts s 3) (z : Int) (hz : z = accK s (byt s 0 - 224) 3) :
 ((z < 2048 ∨ z > 1114111 ∨ (55296 ≤ z ∧ z < 57344)) → Utf8.decode s 0 = (65533, 1)) ∧ (¬ (z < 2048 ∨ z > 1114111 ∨ (55296 ≤ z ∧ z < 57344)) → Utf8.decode s 0 = (z.toNat, 3)) := by
 have c1 := h 1 (by omega) (by omega)
 have c2 := h 2 (by omega) (by omega)
 unfold cont at c1 c2
 simp only [accK] at hz
 rw [decode0]
 generalize byt s 0 = b0 at *
 generalize byt s 1 = b1 at *
 generalize byt s 2 = b2 at *
 generalize byt s 3 = b3 at *
 constructor
 · intro hh
   unfold Lib.decodeN
   repeat' split
   all_goals first | rfl | omega
 · intro hh
   unfold Lib.decodeN
   repeat' split
   all_goals first | omega | (apply Prod.ext <;> simp only <;> omega)
set_option maxRecDepth 100000 in
set_option maxHeartbeats 1000000 in
theorem decode_3 (s : ByteArray) (w : World) (hs : s.size ≤ maxLen) (h0 : 0 < s.size) (hb : 224 ≤ byt s 0 ∧ byt s 0 < 240) :
 Calls Tryz.prog 167 #[.string s] w fun e w' => e = .returned (dec0 s) ∧ w = w' := by
 unfold maxLen at hs
 have hne : s.toList.isEmpty = false := not_empty s h0
 have h1 : 224 ≤ ((s[0]'h0).toNat : Int) := by rw [byt_at]; omega
 have h2 : ((s[0]'h0).toNat : Int) < 240 := by rw [byt_at]; omega
 have HB := qh hb; clear hb
 by_cases hz : s.size < 3
 · have hz' : (s.size : Int) < 3 := by omega
   have HD := qh (dbad_3 s HB.out (.inl hz)); clear hz
   go_enter Tryz.func167, Tryz.ntmps167
   go_wp2
   go_ret2
   exact ⟨by unfold dec0; rw [HD.out]; rfl, rfl⟩
 · have hz' : ¬ (s.size : Int) < 3 := by omega
   go_enter Tryz.func167, Tryz.ntmps167
   go_wp2
   go_loop [7, 8] (fun r i => ∃ (k : Nat) (z : Int), 1 ≤ k ∧ k ≤ 3 ∧ i = .int .i64 k ∧ r = .int .i32 z ∧ 0 ≤ z ∧ z < bnd k ∧ Hid (z = accK s (byt s 0 - 224) k) ∧ Hid (conts s k)) (fun _ i => 3 - (intOf i).toNat)
   case atStart =>
    have hb := HB.out
    exact ⟨1, ((s[0]'h0).toNat : Int) - 224, by omega, by omega, rfl, rfl, by omega, by simp only [bnd]; omega, by unfold Hid; rw [byt_at]; rfl, fun j _ _ => by omega⟩
   case round =>
    obtain ⟨k, z, hk1, hk2, rfl, rfl, hz0, hz1, HZ, HC⟩ := hrel
    by_cases hk : k < 3
    · have hks : k < s.size := by omega
      have hz2 : z < 131072 := by have := bnd_le k hk1 (by omega); omega
      have hlt := byt_lt s k
      have HZ1 := qh hz1; clear hz1
      by_cases hc : cont s k
      · have hc1 : 128 ≤ ((s[k]'hks).toNat : Int) := by rw [byt_at]; unfold cont at hc; omega
        have hc2 : ((s[k]'hks).toNat : Int) ≤ 191 := by rw [byt_at]; unfold cont at hc; omega
        have HCK := qh hc; clear hc
        clear hlt
        go_wp2
        go_round
        case rel =>
         refine ⟨k + 1, z * 64 + (s[k]'hks).toNat - 128, by omega, by omega, by go_num, rfl, by omega, bnd_succ k z _ hk1 (by omega) HZ1.out hc2, ?_, ?_⟩
         · unfold Hid; rw [accK_succ _ _ _ hk1, byt_at, ← HZ.out]
         · intro j j1 j2
           by_cases hj : j = k
           · subst hj; exact HCK.out
           · exact HC.out j j1 (by omega)
        case measure => simp [intOf]; omega
      · have HD : Hid (Utf8.decode s 0 = (65533, 1)) := dbad_3 s HB.out (.inr fun h => hc (h k hk1 hk))
        by_cases hlo : byt s k < 128
        · have hc1 : ((s[k]'hks).toNat : Int) < 128 := by rw [byt_at]; omega
          clear hc hlo hlt
          go_wp2
          go_ret2
          exact ⟨by unfold dec0; rw [HD.out]; rfl, rfl⟩
        · have hc1 : 128 ≤ ((s[k]'hks).toNat : Int) := by rw [byt_at]; omega
          have hc2 : 191 < ((s[k]'hks).toNat : Int) := by rw [byt_at]; unfold cont at hc; omega
          clear hc hlo hlt
          go_wp2
          go_ret2
          exact ⟨by unfold dec0; rw [HD.out]; rfl, rfl⟩
    · obtain rfl : k = 3 := by omega
      obtain ⟨f1, f2⟩ := dfin_3 s HB.out (by omega) HC.out z HZ.out
      by_cases hbad : z < 2048 ∨ z > 1114111 ∨ (55296 ≤ z ∧ z < 57344)
      · have HD := qh (f1 hbad)
        clear f1 f2
        by_cases g1 : z < 2048
        · clear hbad
          go_wp2
          go_ret2
          exact ⟨by unfold dec0; rw [HD.out]; rfl, rfl⟩
        · by_cases g2 : z > 1114111
          · clear hbad
            go_wp2
            go_ret2
            exact ⟨by unfold dec0; rw [HD.out]; rfl, rfl⟩
          · have g3 : 55296 ≤ z := by omega
            have g4 : z < 57344 := by omega
            clear hbad
            go_wp2
            go_ret2
            exact ⟨by unfold dec0; rw [HD.out]; rfl, rfl⟩
      · have HD := qh (f2 hbad)
        clear f1 f2
        have g1 : ¬ z < 2048 := by omega
        have g2 : ¬ z > 1114111 := by omega
        have hfin : dec0 s = .tuple #[.int .i32 z, .int .i64 3] := by
         unfold dec0; rw [HD.out]; simp only; rw [Int.toNat_of_nonneg hz0]; rfl
        have HF := qh hfin; clear hfin
        by_cases g3 : z < 55296
        · have g3' : ¬ 55296 ≤ z := by omega
          clear hbad
          go_wp2
          go_ret2
          exact ⟨by rw [HF.out]; rfl, rfl⟩
        · have g3' : 55296 ≤ z := by omega
          have g4 : ¬ z < 57344 := by omega
          clear hbad
          go_wp2
          go_ret2
          exact ⟨by rw [HF.out]; rfl, rfl⟩
theorem dbad_4 (s : ByteArray) (hb : 240 ≤ byt s 0 ∧ byt s 0 < 248) (h : s.size < 4 ∨ ¬ conts s 4) : Utf8.decode s 0 = (65533, 1) := by
 have hc : s.size < 4 ∨ ¬ cont s 1 ∨ ¬ cont s 2 ∨ ¬ cont s 3 := by
  rcases h with h | h
  · exact .inl h
  · refine .inr (Classical.byContradiction fun hn => h fun j h1 h2 => ?_)
    have hj : j = 1 ∨ j = 2 ∨ j = 3 := by omega
    rcases hj with rfl | rfl | rfl
    all_goals exact Classical.byContradiction fun hk => hn (by simp [hk])
 unfold cont at hc
 have l1 := byt_lt s 1
 have l2 := byt_lt s 2
 have l3 := byt_lt s 3
 rw [decode0]; unfold Lib.decodeN
 repeat' split
 all_goals first | rfl | omega
theorem dfin_4 (s : ByteArray) (hb : 240 ≤ byt s 0 ∧ byt s 0 < 248) (hs : 4 ≤ s.size) (h : conts s 4) (z : Int) (hz : z = accK s (byt s 0 - 240) 4) :
 ((z < 65536 ∨ z > 1114111 ∨ (55296 ≤ z ∧ z < 57344)) → Utf8.decode s 0 = (65533, 1)) ∧ (¬ (z < 65536 ∨ z > 1114111 ∨ (55296 ≤ z ∧ z < 57344)) → Utf8.decode s 0 = (z.toNat, 4)) := by
 have c1 := h 1 (by omega) (by omega)
 have c2 := h 2 (by omega) (by omega)
 have c3 := h 3 (by omega) (by omega)
 unfold cont at c1 c2 c3
 simp only [accK] at hz
 rw [decode0]
 generalize byt s 0 = b0 at *
 generalize byt s 1 = b1 at *
 generalize byt s 2 = b2 at *
 generalize byt s 3 = b3 at *
 constructor
 · intro hh
   unfold Lib.decodeN
   repeat' split
   all_goals first | rfl | omega
 · intro hh
   unfold Lib.decodeN
   repeat' split
   all_goals first | omega | (apply Prod.ext <;> simp only <;> omega)
set_option maxRecDepth 100000 in
set_option maxHeartbeats 1000000 in
theorem decode_4 (s : ByteArray) (w : World) (hs : s.size ≤ maxLen) (h0 : 0 < s.size) (hb : 240 ≤ byt s 0 ∧ byt s 0 < 248) :
 Calls Tryz.prog 167 #[.string s] w fun e w' => e = .returned (dec0 s) ∧ w = w' := by
 unfold maxLen at hs
 have hne : s.toList.isEmpty = false := not_empty s h0
 have h1 : 240 ≤ ((s[0]'h0).toNat : Int) := by rw [byt_at]; omega
 have h2 : ((s[0]'h0).toNat : Int) < 248 := by rw [byt_at]; omega
 have HB := qh hb; clear hb
 by_cases hz : s.size < 4
 · have hz' : (s.size : Int) < 4 := by omega
   have HD := qh (dbad_4 s HB.out (.inl hz)); clear hz
   go_enter Tryz.func167, Tryz.ntmps167
   go_wp2
   go_ret2
   exact ⟨by unfold dec0; rw [HD.out]; rfl, rfl⟩
 · have hz' : ¬ (s.size : Int) < 4 := by omega
   go_enter Tryz.func167, Tryz.ntmps167
   go_wp2
   go_loop [7, 8] (fun r i => ∃ (k : Nat) (z : Int), 1 ≤ k ∧ k ≤ 4 ∧ i = .int .i64 k ∧ r = .int .i32 z ∧ 0 ≤ z ∧ z < bnd k ∧ Hid (z = accK s (byt s 0 - 240) k) ∧ Hid (conts s k)) (fun _ i => 4 - (intOf i).toNat)
   case atStart =>
    have hb := HB.out
    exact ⟨1, ((s[0]'h0).toNat : Int) - 240, by omega, by omega, rfl, rfl, by omega, by simp only [bnd]; omega, by unfold Hid; rw [byt_at]; rfl, fun j _ _ => by omega⟩
   case round =>
    obtain ⟨k, z, hk1, hk2, rfl, rfl, hz0, hz1, HZ, HC⟩ := hrel
    by_cases hk : k < 4
    · have hks : k < s.size := by omega
      have hz2 : z < 131072 := by have := bnd_le k hk1 (by omega); omega
      have hlt := byt_lt s k
      have HZ1 := qh hz1; clear hz1
      by_cases hc : cont s k
      · have hc1 : 128 ≤ ((s[k]'hks).toNat : Int) := by rw [byt_at]; unfold cont at hc; omega
        have hc2 : ((s[k]'hks).toNat : Int) ≤ 191 := by rw [byt_at]; unfold cont at hc; omega
        have HCK := qh hc; clear hc
        clear hlt
        go_wp2
        go_round
        case rel =>
         refine ⟨k + 1, z * 64 + (s[k]'hks).toNat - 128, by omega, by omega, by go_num, rfl, by omega, bnd_succ k z _ hk1 (by omega) HZ1.out hc2, ?_, ?_⟩
         · unfold Hid; rw [accK_succ _ _ _ hk1, byt_at, ← HZ.out]
         · intro j j1 j2
           by_cases hj : j = k
           · subst hj; exact HCK.out
           · exact HC.out j j1 (by omega)
        case measure => simp [intOf]; omega
      · have HD : Hid (Utf8.decode s 0 = (65533, 1)) := dbad_4 s HB.out (.inr fun h => hc (h k hk1 hk))
        by_cases hlo : byt s k < 128
        · have hc1 : ((s[k]'hks).toNat : Int) < 128 := by rw [byt_at]; omega
          clear hc hlo hlt
          go_wp2
          go_ret2
          exact ⟨by unfold dec0; rw [HD.out]; rfl, rfl⟩
        · have hc1 : 128 ≤ ((s[k]'hks).toNat : Int) := by rw [byt_at]; omega
          have hc2 : 191 < ((s[k]'hks).toNat : Int) := by rw [byt_at]; unfold cont at hc; omega
          clear hc hlo hlt
          go_wp2
          go_ret2
          exact ⟨by unfold dec0; rw [HD.out]; rfl, rfl⟩
    · obtain rfl : k = 4 := by omega
      obtain ⟨f1, f2⟩ := dfin_4 s HB.out (by omega) HC.out z HZ.out
      by_cases hbad : z < 65536 ∨ z > 1114111 ∨ (55296 ≤ z ∧ z < 57344)
      · have HD := qh (f1 hbad)
        clear f1 f2
        by_cases g1 : z < 65536
        · clear hbad
          go_wp2
          go_ret2
          exact ⟨by unfold dec0; rw [HD.out]; rfl, rfl⟩
        · by_cases g2 : z > 1114111
          · clear hbad
            go_wp2
            go_ret2
            exact ⟨by unfold dec0; rw [HD.out]; rfl, rfl⟩
          · have g3 : 55296 ≤ z := by omega
            have g4 : z < 57344 := by omega
            clear hbad
            go_wp2
            go_ret2
            exact ⟨by unfold dec0; rw [HD.out]; rfl, rfl⟩
      · have HD := qh (f2 hbad)
        clear f1 f2
        have g1 : ¬ z < 65536 := by omega
        have g2 : ¬ z > 1114111 := by omega
        have hfin : dec0 s = .tuple #[.int .i32 z, .int .i64 4] := by
         unfold dec0; rw [HD.out]; simp only; rw [Int.toNat_of_nonneg hz0]; rfl
        have HF := qh hfin; clear hfin
        by_cases g3 : z < 55296
        · have g3' : ¬ 55296 ≤ z := by omega
          clear hbad
          go_wp2
          go_ret2
          exact ⟨by rw [HF.out]; rfl, rfl⟩
        · have g3' : 55296 ≤ z := by omega
          have g4 : ¬ z < 57344 := by omega
          clear hbad
          go_wp2
          go_ret2
          exact ⟨by rw [HF.out]; rfl, rfl⟩
theorem decode_any (s : ByteArray) (w : World) (hs : s.size ≤ maxLen) (h0 : 0 < s.size) :
 Calls Tryz.prog 167 #[.string s] w fun e w' => e = .returned (dec0 s) ∧ w = w' := by
 by_cases h1 : byt s 0 < 128
 · exact decode_1 s w hs h0 h1
 by_cases h2 : byt s 0 < 192
 · exact decode_0 s w hs h0 (.inl ⟨by omega, h2⟩)
 by_cases h3 : byt s 0 < 224
 · exact decode_2 s w hs h0 ⟨by omega, h3⟩
 by_cases h4 : byt s 0 < 240
 · exact decode_3 s w hs h0 ⟨by omega, h4⟩
 by_cases h5 : byt s 0 < 248
 · exact decode_4 s w hs h0 ⟨by omega, h5⟩
 · exact decode_0 s w hs h0 (.inr (by omega))
theorem info32 : (Tryz.prog.info? 21).map (fun i => (i.zero, i.size, i.bytes)) = some (some (.int .i32 0), 1, 4) := by kernel_rfl
def rcell (l : List (Nat × Nat)) : List Value := l.map fun x => .int .i32 (x.1 : Int)
theorem rcell_snoc (l : List (Nat × Nat)) (x : Nat × Nat) : rcell l ++ [.int .i32 (x.1 : Int)] = rcell (l ++ [x]) := by simp [rcell]
theorem good_snoc (l : List (Nat × Nat)) (x : Nat × Nat) : good (l ++ [x]) = (good l && okR x) := by simp [good]
def RunesOut (s : ByteArray) (w : World) (e : Ending) (w' : World) : Prop :=
 ∃ v, e = .returned (.tuple #[v, .bool (good (rns s))]) ∧ w'.ownsRow w.heap.size 21 1 v (rns s).length (rcell (rns s)) ∧ Below w.heap.size w w'
theorem below_one {B : Nat} {w w1 w2 : World} {o : Obj} {v : Value} {base n : Nat} {e : TypeId} {xs : List Value} (h : Below B w w1) (hown : w1.ownsRow base e 1 v n xs) (hB : B ≤ base) (hs : B ≤ w1.heap.size) (hg : (w1.alloc o).grownBy w2 v.ownBlock) : Below B w w2 :=
 (h.alloc hs o).grown hg (by simp; omega) fun k hk => Nat.le_trans hB (hown.lt k hk).1
set_option maxHeartbeats 1000000 in
theorem runes_any (s : ByteArray) (w : World) (hs : s.size ≤ 140737488351232 / 4) :
 Calls Tryz.prog 136 #[.string s] w (RunesOut s w) := by
 obtain ⟨i0, hi, hz0, hz1, hz2⟩ := info_parts info32
 have HZ0 := qh hz0; have HZ1 := qh hz1; have HZ2 := qh hz2; have HI := qh hi
 clear hz0 hz1 hz2 hi
 go_enter Tryz.func136, Tryz.ntmps136
 go_wp2
 go_loopw [0, 4, 5] (fun sv lv gv wr => ∃ (t : ByteArray) (pre : List (Nat × Nat)), sv = .string t ∧ t.size ≤ s.size ∧ pre.length + t.size ≤ s.size ∧ Hid (pre ++ rns t = rns s) ∧ Hid (wr.ownsRow w.heap.size 21 1 lv pre.length (rcell pre)) ∧ gv = .bool (good pre) ∧ Below w.heap.size w wr) (fun sv _ _ _ => match sv with | .string t => t.size | _ => 0)
 case atStart => exact ⟨s, [], rfl, by omega, by simp, by simp [Hid], World.ownsRow_nil _ _ _ _, rfl, bR _ _⟩
 case round =>
  obtain ⟨t, pre, rfl, ht, hl, HP, HO, rfl, hb⟩ := hrel
  by_cases h : 0 < t.size
  · have h' : (0 : Int) < (t.size : Int) := by omega
    have h1 := dec_fits t 0 h
    have h2 := dec_pos t 0
    rw [Nat.zero_add] at h1
    have htm : t.size ≤ maxLen := by unfold maxLen; omega
    have HM := qh htm; clear htm
    have HX := qh (rns_step h)
    have hne : t.toList.isEmpty = false := not_empty t h
    have hbs : w.heap.size ≤ (wr.alloc (.cells #[.int .i32 ((Utf8.decode t 0).1 : Int)] 21)).heap.size := by simp; have := hb.size; omega
    have HBS := qh hbs; clear hbs
    cases hg : good pre with
    | false =>
       have hg0 := qh hg
       go_wp2_with (first | (go_at_call 167; refine (decode_any _ _ HM.out h).mono ?_; unfold dec0; rintro e w' ⟨rfl, rfl⟩) | (at_builtin; refine wpList_append_own _ rfl _ _ 192 rfl w.heap.size 21 i0 (.int .i32 0) 1 4 Tryz.underlying192 HI.out HZ0.out HZ1.out HZ2.out rfl (by decide) _ _ _ rfl (HO.out.alloc _) ⟨wr.heap.size, 0, none⟩ 1 1 [.int .i32 ((Utf8.decode t 0).1 : Int)] rfl rfl (cell_one_new _ _ _) (by simp [Value.oneCell']) (by unfold maxLen; omega) (by omega) HBS.out ?_; intro v' w1 hown1 hgrow _; have HO1 := qh hown1; have hb1 := below_one hb HO.out (nl _) hb.size hgrow; clear hown1 hgrow))
       go_roundw
       case rel =>
        refine ⟨t.extract (Utf8.decode t 0).2 t.size, pre ++ [Utf8.decode t 0], rfl, by rw [size_tail]; omega, by rw [size_tail]; simp; omega, ?_, ?_, ?_, hb1⟩
        · have := HP.out; rw [HX.out] at this; unfold Hid; rw [← this]; simp
        · have := HO1.out; rw [rcell_snoc] at this; unfold Hid; simpa using this
        · rw [good_snoc]; rw [hg0.out]; rfl
       case measure => simp; omega
    | true =>
      by_cases hr : (Utf8.decode t 0).1 = 65533
      · have hc : (((Utf8.decode t 0).1 : Int) != 65533) = false := by simp [hr]
        have hg0 := qh hg
        have hk : okR (Utf8.decode t 0) = (((Utf8.decode t 0).2 : Int) == 3) := by
         unfold okR; rw [hr, Bool.eq_iff_iff]; simp; omega
        have HK := qh hk; clear hk hr
        go_wp2_with (first | (go_at_call 167; refine (decode_any _ _ HM.out h).mono ?_; unfold dec0; rintro e w' ⟨rfl, rfl⟩) | (at_builtin; refine wpList_append_own _ rfl _ _ 192 rfl w.heap.size 21 i0 (.int .i32 0) 1 4 Tryz.underlying192 HI.out HZ0.out HZ1.out HZ2.out rfl (by decide) _ _ _ rfl (HO.out.alloc _) ⟨wr.heap.size, 0, none⟩ 1 1 [.int .i32 ((Utf8.decode t 0).1 : Int)] rfl rfl (cell_one_new _ _ _) (by simp [Value.oneCell']) (by unfold maxLen; omega) (by omega) HBS.out ?_; intro v' w1 hown1 hgrow _; have HO1 := qh hown1; have hb1 := below_one hb HO.out (nl _) hb.size hgrow; clear hown1 hgrow))
        go_roundw
        case rel =>
         refine ⟨t.extract (Utf8.decode t 0).2 t.size, pre ++ [Utf8.decode t 0], rfl, by rw [size_tail]; omega, by rw [size_tail]; simp; omega, ?_, ?_, ?_, hb1⟩
         · have := HP.out; rw [HX.out] at this; unfold Hid; rw [← this]; simp
         · have := HO1.out; rw [rcell_snoc] at this; unfold Hid; simpa using this
         · rw [good_snoc]; rw [hg0.out, HK.out]; rfl
        case measure => simp; omega
      · have hc : (((Utf8.decode t 0).1 : Int) != 65533) = true := by simp; omega
        have hg0 := qh hg
        have hk : okR (Utf8.decode t 0) = true := by simp [okR, hr]
        have HK := qh hk; clear hk hr
        go_wp2_with (first | (go_at_call 167; refine (decode_any _ _ HM.out h).mono ?_; unfold dec0; rintro e w' ⟨rfl, rfl⟩) | (at_builtin; refine wpList_append_own _ rfl _ _ 192 rfl w.heap.size 21 i0 (.int .i32 0) 1 4 Tryz.underlying192 HI.out HZ0.out HZ1.out HZ2.out rfl (by decide) _ _ _ rfl (HO.out.alloc _) ⟨wr.heap.size, 0, none⟩ 1 1 [.int .i32 ((Utf8.decode t 0).1 : Int)] rfl rfl (cell_one_new _ _ _) (by simp [Value.oneCell']) (by unfold maxLen; omega) (by omega) HBS.out ?_; intro v' w1 hown1 hgrow _; have HO1 := qh hown1; have hb1 := below_one hb HO.out (nl _) hb.size hgrow; clear hown1 hgrow))
        go_roundw
        case rel =>
         refine ⟨t.extract (Utf8.decode t 0).2 t.size, pre ++ [Utf8.decode t 0], rfl, by rw [size_tail]; omega, by rw [size_tail]; simp; omega, ?_, ?_, ?_, hb1⟩
         · have := HP.out; rw [HX.out] at this; unfold Hid; rw [← this]; simp
         · have := HO1.out; rw [rcell_snoc] at this; unfold Hid; simpa using this
         · rw [good_snoc]; rw [hg0.out, HK.out]; rfl
        case measure => simp; omega
  · have h' : ¬ (0 : Int) < (t.size : Int) := by omega
    go_wp2
    go_ret2
    have e : rns t = [] := rns_nil (by omega)
    have hp := HP.out
    rw [e, List.append_nil] at hp
    subst hp
    exact ⟨_, rfl, HO.out, hb⟩
theorem rcell_at {l : List (Nat × Nat)} {k : Nat} (h : k < l.length) : (rcell l)[k]? = some (.int .i32 ((l[k]'h).1 : Int)) := by
 simp [rcell, h]
set_option maxHeartbeats 1000000 in
theorem reftitle_any (s : ByteArray) (w : World) (hs : s.size ≤ 140737488351232 / 4) :
 Calls Tryz.prog 162 #[.string s] w fun e w' => e = .returned (.bool (titB s)) ∧ Below w.heap.size w w' := by
 have hlen := rns_len s
 cases hg : good (rns s) with
 | false =>
   have ht : titB s = false := by simp [titB, hg]
   have HT := qh ht; clear ht
   go_enter Tryz.func162, Tryz.ntmps162
   go_wp2_with (go_at_call 136; refine (runes_any _ _ hs).mono ?_; rintro e w1 ⟨v, rfl, hown, hb⟩)
   go_ret
   exact ⟨by rw [HT.out]; rfl, hb⟩
 | true =>
   go_enter Tryz.func162, Tryz.ntmps162
   go_wp2_with fail
   refine (runes_any _ _ hs).mono ?_
   rintro e w1 ⟨v, rfl, hown, hb⟩
   have HG := qh hg
   by_cases h1 : 1 ≤ (rns s).length
   · obtain ⟨g, cap, rfl, hg1, hg2⟩ := hown.form h1
     have HO := qh hown; clear hown
     have i1 : ¬ ((rns s).length : Int) < 1 := by omega
     by_cases h2 : (rns s).length ≤ 20
     · have i2 : ¬ ((rns s).length : Int) > 20 := by omega
       have ht : titB s = plainR (rns s) := by simp [titB, hg, h1, h2]
       have HT := qh ht; clear ht
       go_wp2
       go_loop [5] (fun i => ∃ k : Nat, k ≤ (rns s).length ∧ i = .int .i64 k ∧ Hid (plainR ((rns s).drop k) = plainR (rns s))) (fun i => (rns s).length - (intOf i).toNat)
       case atStart => exact ⟨0, by omega, rfl, rfl⟩
       case round =>
        obtain ⟨k, hk, rfl, HP⟩ := hrel
        by_cases hlt : k < (rns s).length
        · have hlt' : (k : Int) < ((rns s).length : Int) := by omega
          have hc := HO.out.cellAt k (by omega)
          rw [rcell_at hlt] at hc
          have hd : (rns s).drop k = (rns s)[k]'hlt :: (rns s).drop (k + 1) := List.drop_eq_getElem_cons hlt
          have HD := qh hd; clear hd
          by_cases hbad : ((rns s)[k]'hlt).1 < 32 ∨ ((rns s)[k]'hlt).1 = 127
          · have hq : plainR (rns s) = false := by
             rw [← HP.out, HD.out]
             simp only [plainR, List.all_cons]
             rcases hbad with ha | ha <;> simp [ha]
            have HQ := qh hq; clear hq
            by_cases hb3 : ((rns s)[k]'hlt).1 < 32
            · have hb' : (((rns s)[k]'hlt).1 : Int) < 32 := by omega
              clear hbad hb3
              go_wp2
              go_ret
              exact ⟨by rw [HT.out, HQ.out]; rfl, hb⟩
            · have hc : ((((rns s)[k]'hlt).1 : Int) == 127) = true := by
               have : ((rns s)[k]'hlt).1 = 127 := by omega
               rw [this]; rfl
              have hb' : ¬ (((rns s)[k]'hlt).1 : Int) < 32 := by omega
              clear hbad hb3
              go_wp2
              go_ret
              exact ⟨by rw [HT.out, HQ.out]; rfl, hb⟩
          · have hb' : ¬ (((rns s)[k]'hlt).1 : Int) < 32 := by omega
            have hc : ((((rns s)[k]'hlt).1 : Int) == 127) = false := by rw [beq_eq_false_iff_ne]; omega
            have e : (!(decide (((rns s)[k]'hlt).1 < 32) || ((rns s)[k]'hlt).1 == 127)) = true := by simp; omega
            have HE := qh e; clear e hbad
            go_wp2
            go_round
            case rel =>
             refine ⟨k + 1, by omega, by go_num, ?_⟩
             have := HP.out
             rw [HD.out] at this
             unfold Hid
             rw [← this]
             simp only [plainR, List.all_cons]
             rw [HE.out, Bool.true_and]
            case measure => simp [intOf]; omega
        · have hlt' : ¬ (k : Int) < ((rns s).length : Int) := by omega
          go_wp2
          go_ret
          refine ⟨?_, hb⟩
          rw [HT.out, ← HP.out, List.drop_eq_nil_of_le (by omega)]; rfl
     · have i2 : ((rns s).length : Int) > 20 := by omega
       have ht : titB s = false := by simp [titB, h2]
       have HT := qh ht; clear ht
       go_wp2
       go_ret
       exact ⟨by rw [HT.out]; rfl, hb⟩
   · have ht : titB s = false := by simp [titB, h1]
     have HT := qh ht; clear ht
     have h0 : (rns s).length = 0 := by omega
     rw [h0] at hown
     rcases hown.2 with ⟨rfl, _⟩ | ⟨g, cap, cur, rfl, _⟩
     · go_wp2
       go_ret
       exact ⟨by rw [HT.out]; rfl, hb⟩
     · go_wp2
       go_ret
       exact ⟨by rw [HT.out]; rfl, hb⟩
end Go.Proofs.YtpnobpligchpiaaGreatDoor
