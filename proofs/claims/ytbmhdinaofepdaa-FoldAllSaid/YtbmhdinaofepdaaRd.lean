/- THE WALKS over package quintainref1: Decode. -/
import Derived.Test.YtbmhdinaofepdaaRc
namespace Go.Proofs.Ytbmhdinaofepdaa
open Go.RowKit

/-- Byte k of a text; 0 beyond its end. -/
def byt (s : ByteArray) (k : Nat) : Nat := (s.get! k).toNat
theorem byt_at (s : ByteArray) (k : Nat) (h : k < s.size) : (s[k]'h).toNat = byt s k := by
  unfold byt; rw [← get_at s k h, Nat.add_zero]
theorem byt_lt (s : ByteArray) (k : Nat) : byt s k < 256 := (s.get! k).toNat_lt
theorem not_empty (s : ByteArray) (h : 0 < s.size) : s.toList.isEmpty = false := by
  rw [Lib.toList_data]
  have := size_len s
  cases e : s.data.toList with
  | nil => rw [e, List.length_nil] at this; omega
  | cons => rfl

def dec0 (s : ByteArray) : Value := .tuple #[.int .i32 (Utf8.decode s 0).1, .int .i64 (Utf8.decode s 0).2]
theorem decode0 (s : ByteArray) : Utf8.decode s 0 = Lib.decodeN s.size (byt s 0) (byt s 1) (byt s 2) (byt s 3) := by
  have := Lib.decode_at s 0
  simpa [byt] using this

/-- What stands in r behind the bytes 1 to k - 1. -/
def accK (s : ByteArray) (r0 : Int) : Nat → Int
  | 0 => r0
  | 1 => r0
  | k + 2 => accK s r0 (k + 1) * 64 + byt s (k + 1) - 128
theorem accK_succ (s : ByteArray) (r0 : Int) (k : Nat) (h : 1 ≤ k) : accK s r0 (k + 1) = accK s r0 k * 64 + byt s k - 128 := by
  obtain ⟨j, rfl⟩ : ∃ j, k = j + 1 := ⟨k - 1, by omega⟩
  rfl
def cont (s : ByteArray) (k : Nat) : Prop := 128 ≤ byt s k ∧ byt s k ≤ 191
def conts (s : ByteArray) (k : Nat) : Prop := ∀ j, 1 ≤ j → j < k → cont s j
def bnd : Nat → Int
  | 1 => 32
  | 2 => 2048
  | 3 => 131072
  | _ => 8388608
theorem bnd_le (k : Nat) (h0 : 1 ≤ k) (h : k ≤ 3) : bnd k ≤ 131072 := by
  obtain rfl | rfl | rfl : k = 1 ∨ k = 2 ∨ k = 3 := by omega
  all_goals simp [bnd]
theorem bnd_succ (k : Nat) (z b : Int) (h0 : 1 ≤ k) (h : k ≤ 3) (hz : z < bnd k) (hb : b ≤ 191) : z * 64 + b - 128 < bnd (k + 1) := by
  obtain rfl | rfl | rfl : k = 1 ∨ k = 2 ∨ k = 3 := by omega
  all_goals (simp [bnd] at hz ⊢; omega)

set_option maxRecDepth 100000 in
set_option maxHeartbeats 400000 in
theorem decode_1 (s : ByteArray) (w : World) (_hs : s.size ≤ maxLen) (h0 : 0 < s.size) (hb : byt s 0 < 128) :
    Calls Try.prog 28 #[.string s] w fun e w' => e = .returned (dec0 s) ∧ w = w' := by
  have hne : s.toList.isEmpty = false := not_empty s h0
  have h1 : ((s[0]'h0).toNat : Int) < 128 := by rw [byt_at]; omega
  have HB := Lib.hid hb; clear hb
  go_enter Try.func28, Try.ntmps28
  go_wp2
  go_ret2
  refine ⟨?_, rfl⟩
  have e : Utf8.decode s 0 = (byt s 0, 1) := by rw [decode0]; unfold Lib.decodeN; rw [if_pos HB.out]
  unfold dec0
  rw [e, ← byt_at s 0 h0]
  rfl

set_option maxRecDepth 100000 in
set_option maxHeartbeats 400000 in
theorem decode_0 (s : ByteArray) (w : World) (_hs : s.size ≤ maxLen) (h0 : 0 < s.size) (hb : (128 ≤ byt s 0 ∧ byt s 0 < 192) ∨ 248 ≤ byt s 0) :
    Calls Try.prog 28 #[.string s] w fun e w' => e = .returned (dec0 s) ∧ w = w' := by
  have hne : s.toList.isEmpty = false := not_empty s h0
  have hd : dec0 s = .tuple #[.int .i32 65533, .int .i64 1] := by
    have e : Utf8.decode s 0 = (65533, 1) := by
      rw [decode0]; unfold Lib.decodeN
      repeat' split
      all_goals first | rfl | omega
    unfold dec0; rw [e]; rfl
  have HD := Lib.hid hd; clear hd
  have hlt := byt_lt s 0
  rcases hb with hb | hb
  · have h1 : 128 ≤ ((s[0]'h0).toNat : Int) := by rw [byt_at]; omega
    have h2 : ((s[0]'h0).toNat : Int) < 192 := by rw [byt_at]; omega
    clear hb hlt
    go_enter Try.func28, Try.ntmps28
    go_wp2
    go_ret2
    exact ⟨by rw [HD.out]; rfl, rfl⟩
  · have h1 : 248 ≤ ((s[0]'h0).toNat : Int) := by rw [byt_at]; omega
    clear hb hlt
    go_enter Try.func28, Try.ntmps28
    go_wp2
    go_ret2
    exact ⟨by rw [HD.out]; rfl, rfl⟩

/-! ### a lead byte from 192 to 223: 2 bytes -/
theorem dbad_2 (s : ByteArray) (hb : 192 ≤ byt s 0 ∧ byt s 0 < 224) (h : s.size < 2 ∨ ¬ conts s 2) : Utf8.decode s 0 = (65533, 1) := by
  have hc : s.size < 2 ∨ ¬ cont s 1 := by
    rcases h with h | h
    · exact .inl h
    · refine .inr (Classical.byContradiction fun hn => h fun j h1 h2 => ?_)
      have hj : j = 1 := by omega
      subst hj; exact Classical.byContradiction fun hk => hn hk
  unfold cont at hc
  have l1 := byt_lt s 1
  have l2 := byt_lt s 2
  have l3 := byt_lt s 3
  rw [decode0]; unfold Lib.decodeN
  repeat' split
  all_goals first | rfl | omega
theorem dfin_2 (s : ByteArray) (hb : 192 ≤ byt s 0 ∧ byt s 0 < 224) (hs : 2 ≤ s.size) (h : conts s 2) (z : Int) (hz : z = accK s (byt s 0 - 192) 2) :
    ((z < 128 ∨ z > 1114111 ∨ (55296 ≤ z ∧ z < 57344)) → Utf8.decode s 0 = (65533, 1)) ∧ (¬ (z < 128 ∨ z > 1114111 ∨ (55296 ≤ z ∧ z < 57344)) → Utf8.decode s 0 = (z.toNat, 2)) := by
  have c1 := h 1 (by omega) (by omega)
  unfold cont at c1
  simp only [accK] at hz
  rw [decode0]
  generalize byt s 0 = b0 at *
  generalize byt s 1 = b1 at *
  generalize byt s 2 = b2 at *
  generalize byt s 3 = b3 at *
  constructor
  · intro hh
    unfold Lib.decodeN
    repeat' split
    all_goals first | rfl | omega
  · intro hh
    unfold Lib.decodeN
    repeat' split
    all_goals first | omega | (apply Prod.ext <;> simp only <;> omega)

set_option maxRecDepth 100000 in
set_option maxHeartbeats 1000000 in
theorem decode_2 (s : ByteArray) (w : World) (hs : s.size ≤ maxLen) (h0 : 0 < s.size) (hb : 192 ≤ byt s 0 ∧ byt s 0 < 224) :
    Calls Try.prog 28 #[.string s] w fun e w' => e = .returned (dec0 s) ∧ w = w' := by
  unfold maxLen at hs
  have hne : s.toList.isEmpty = false := not_empty s h0
  have h1 : 192 ≤ ((s[0]'h0).toNat : Int) := by rw [byt_at]; omega
  have h2 : ((s[0]'h0).toNat : Int) < 224 := by rw [byt_at]; omega
  have HB := Lib.hid hb; clear hb
  by_cases hz : s.size < 2
  · have hz' : (s.size : Int) < 2 := by omega
    have HD := Lib.hid (dbad_2 s HB.out (.inl hz)); clear hz
    go_enter Try.func28, Try.ntmps28
    go_wp2
    go_ret2
    exact ⟨by unfold dec0; rw [HD.out]; rfl, rfl⟩
  · have hz' : ¬ (s.size : Int) < 2 := by omega
    go_enter Try.func28, Try.ntmps28
    go_wp2
    go_loop [7, 8] (fun r i => ∃ (k : Nat) (z : Int), 1 ≤ k ∧ k ≤ 2 ∧ i = .int .i64 k ∧ r = .int .i32 z ∧ 0 ≤ z ∧ z < bnd k ∧ Hid (z = accK s (byt s 0 - 192) k) ∧ Hid (conts s k)) (fun _ i => 2 - (intOf i).toNat)
    case atStart =>
      have hb := HB.out
      exact ⟨1, ((s[0]'h0).toNat : Int) - 192, by omega, by omega, rfl, rfl, by omega, by simp only [bnd]; omega, by unfold Hid; rw [byt_at]; rfl, fun j _ _ => by omega⟩
    case round =>
      obtain ⟨k, z, hk1, hk2, rfl, rfl, hz0, hz1, HZ, HC⟩ := hrel
      by_cases hk : k < 2
      · have hks : k < s.size := by omega
        have hz2 : z < 131072 := by have := bnd_le k hk1 (by omega); omega
        have hlt := byt_lt s k
        have HZ1 := Lib.hid hz1; clear hz1
        by_cases hc : cont s k
        · have hc1 : 128 ≤ ((s[k]'hks).toNat : Int) := by rw [byt_at]; unfold cont at hc; omega
          have hc2 : ((s[k]'hks).toNat : Int) ≤ 191 := by rw [byt_at]; unfold cont at hc; omega
          have HCK := Lib.hid hc; clear hc
          clear hlt
          go_wp2
          go_round
          case rel =>
            refine ⟨k + 1, z * 64 + (s[k]'hks).toNat - 128, by omega, by omega, by go_num, rfl, by omega, bnd_succ k z _ hk1 (by omega) HZ1.out hc2, ?_, ?_⟩
            · unfold Hid; rw [accK_succ _ _ _ hk1, byt_at, ← HZ.out]
            · intro j j1 j2
              by_cases hj : j = k
              · subst hj; exact HCK.out
              · exact HC.out j j1 (by omega)
          case measure => simp [intOf]; omega
        · have HD : Hid (Utf8.decode s 0 = (65533, 1)) := dbad_2 s HB.out (.inr fun h => hc (h k hk1 hk))
          by_cases hlo : byt s k < 128
          · have hc1 : ((s[k]'hks).toNat : Int) < 128 := by rw [byt_at]; omega
            clear hc hlo hlt
            go_wp2
            go_ret2
            exact ⟨by unfold dec0; rw [HD.out]; rfl, rfl⟩
          · have hc1 : 128 ≤ ((s[k]'hks).toNat : Int) := by rw [byt_at]; omega
            have hc2 : 191 < ((s[k]'hks).toNat : Int) := by rw [byt_at]; unfold cont at hc; omega
            clear hc hlo hlt
            go_wp2
            go_ret2
            exact ⟨by unfold dec0; rw [HD.out]; rfl, rfl⟩
      · obtain rfl : k = 2 := by omega
        obtain ⟨f1, f2⟩ := dfin_2 s HB.out (by omega) HC.out z HZ.out
        by_cases hbad : z < 128 ∨ z > 1114111 ∨ (55296 ≤ z ∧ z < 57344)
        · have HD := Lib.hid (f1 hbad)
          clear f1 f2
          by_cases g1 : z < 128
          · clear hbad
            go_wp2
            go_ret2
            exact ⟨by unfold dec0; rw [HD.out]; rfl, rfl⟩
          · by_cases g2 : z > 1114111
            · clear hbad
              go_wp2
              go_ret2
              exact ⟨by unfold dec0; rw [HD.out]; rfl, rfl⟩
            · have g3 : 55296 ≤ z := by omega
              have g4 : z < 57344 := by omega
              clear hbad
              go_wp2
              go_ret2
              exact ⟨by unfold dec0; rw [HD.out]; rfl, rfl⟩
        · have HD := Lib.hid (f2 hbad)
          clear f1 f2
          have g1 : ¬ z < 128 := by omega
          have g2 : ¬ z > 1114111 := by omega
          have hfin : dec0 s = .tuple #[.int .i32 z, .int .i64 2] := by
            unfold dec0; rw [HD.out]; simp only; rw [Int.toNat_of_nonneg hz0]; rfl
          have HF := Lib.hid hfin; clear hfin
          by_cases g3 : z < 55296
          · have g3' : ¬ 55296 ≤ z := by omega
            clear hbad
            go_wp2
            go_ret2
            exact ⟨by rw [HF.out]; rfl, rfl⟩
          · have g3' : 55296 ≤ z := by omega
            have g4 : ¬ z < 57344 := by omega
            clear hbad
            go_wp2
            go_ret2
            exact ⟨by rw [HF.out]; rfl, rfl⟩

/-! ### a lead byte from 224 to 239: 3 bytes -/
theorem dbad_3 (s : ByteArray) (hb : 224 ≤ byt s 0 ∧ byt s 0 < 240) (h : s.size < 3 ∨ ¬ conts s 3) : Utf8.decode s 0 = (65533, 1) := by
  have hc : s.size < 3 ∨ ¬ cont s 1 ∨ ¬ cont s 2 := by
    rcases h with h | h
    · exact .inl h
    · refine .inr (Classical.byContradiction fun hn => h fun j h1 h2 => ?_)
      have hj : j = 1 ∨ j = 2 := by omega
      rcases hj with rfl | rfl
      all_goals exact Classical.byContradiction fun hk => hn (by simp [hk])
  unfold cont at hc
  have l1 := byt_lt s 1
  have l2 := byt_lt s 2
  have l3 := byt_lt s 3
  rw [decode0]; unfold Lib.decodeN
  repeat' split
  all_goals first | rfl | omega
theorem dfin_3 (s : ByteArray) (hb : 224 ≤ byt s 0 ∧ byt s 0 < 240) (hs : 3 ≤ s.size) (h : conts s 3) (z : Int) (hz : z = accK s (byt s 0 - 224) 3) :
    ((z < 2048 ∨ z > 1114111 ∨ (55296 ≤ z ∧ z < 57344)) → Utf8.decode s 0 = (65533, 1)) ∧ (¬ (z < 2048 ∨ z > 1114111 ∨ (55296 ≤ z ∧ z < 57344)) → Utf8.decode s 0 = (z.toNat, 3)) := by
  have c1 := h 1 (by omega) (by omega)
  have c2 := h 2 (by omega) (by omega)
  unfold cont at c1 c2
  simp only [accK] at hz
  rw [decode0]
  generalize byt s 0 = b0 at *
  generalize byt s 1 = b1 at *
  generalize byt s 2 = b2 at *
  generalize byt s 3 = b3 at *
  constructor
  · intro hh
    unfold Lib.decodeN
    repeat' split
    all_goals first | rfl | omega
  · intro hh
    unfold Lib.decodeN
    repeat' split
    all_goals first | omega | (apply Prod.ext <;> simp only <;> omega)

set_option maxRecDepth 100000 in
set_option maxHeartbeats 1000000 in
theorem decode_3 (s : ByteArray) (w : World) (hs : s.size ≤ maxLen) (h0 : 0 < s.size) (hb : 224 ≤ byt s 0 ∧ byt s 0 < 240) :
    Calls Try.prog 28 #[.string s] w fun e w' => e = .returned (dec0 s) ∧ w = w' := by
  unfold maxLen at hs
  have hne : s.toList.isEmpty = false := not_empty s h0
  have h1 : 224 ≤ ((s[0]'h0).toNat : Int) := by rw [byt_at]; omega
  have h2 : ((s[0]'h0).toNat : Int) < 240 := by rw [byt_at]; omega
  have HB := Lib.hid hb; clear hb
  by_cases hz : s.size < 3
  · have hz' : (s.size : Int) < 3 := by omega
    have HD := Lib.hid (dbad_3 s HB.out (.inl hz)); clear hz
    go_enter Try.func28, Try.ntmps28
    go_wp2
    go_ret2
    exact ⟨by unfold dec0; rw [HD.out]; rfl, rfl⟩
  · have hz' : ¬ (s.size : Int) < 3 := by omega
    go_enter Try.func28, Try.ntmps28
    go_wp2
    go_loop [7, 8] (fun r i => ∃ (k : Nat) (z : Int), 1 ≤ k ∧ k ≤ 3 ∧ i = .int .i64 k ∧ r = .int .i32 z ∧ 0 ≤ z ∧ z < bnd k ∧ Hid (z = accK s (byt s 0 - 224) k) ∧ Hid (conts s k)) (fun _ i => 3 - (intOf i).toNat)
    case atStart =>
      have hb := HB.out
      exact ⟨1, ((s[0]'h0).toNat : Int) - 224, by omega, by omega, rfl, rfl, by omega, by simp only [bnd]; omega, by unfold Hid; rw [byt_at]; rfl, fun j _ _ => by omega⟩
    case round =>
      obtain ⟨k, z, hk1, hk2, rfl, rfl, hz0, hz1, HZ, HC⟩ := hrel
      by_cases hk : k < 3
      · have hks : k < s.size := by omega
        have hz2 : z < 131072 := by have := bnd_le k hk1 (by omega); omega
        have hlt := byt_lt s k
        have HZ1 := Lib.hid hz1; clear hz1
        by_cases hc : cont s k
        · have hc1 : 128 ≤ ((s[k]'hks).toNat : Int) := by rw [byt_at]; unfold cont at hc; omega
          have hc2 : ((s[k]'hks).toNat : Int) ≤ 191 := by rw [byt_at]; unfold cont at hc; omega
          have HCK := Lib.hid hc; clear hc
          clear hlt
          go_wp2
          go_round
          case rel =>
            refine ⟨k + 1, z * 64 + (s[k]'hks).toNat - 128, by omega, by omega, by go_num, rfl, by omega, bnd_succ k z _ hk1 (by omega) HZ1.out hc2, ?_, ?_⟩
            · unfold Hid; rw [accK_succ _ _ _ hk1, byt_at, ← HZ.out]
            · intro j j1 j2
              by_cases hj : j = k
              · subst hj; exact HCK.out
              · exact HC.out j j1 (by omega)
          case measure => simp [intOf]; omega
        · have HD : Hid (Utf8.decode s 0 = (65533, 1)) := dbad_3 s HB.out (.inr fun h => hc (h k hk1 hk))
          by_cases hlo : byt s k < 128
          · have hc1 : ((s[k]'hks).toNat : Int) < 128 := by rw [byt_at]; omega
            clear hc hlo hlt
            go_wp2
            go_ret2
            exact ⟨by unfold dec0; rw [HD.out]; rfl, rfl⟩
          · have hc1 : 128 ≤ ((s[k]'hks).toNat : Int) := by rw [byt_at]; omega
            have hc2 : 191 < ((s[k]'hks).toNat : Int) := by rw [byt_at]; unfold cont at hc; omega
            clear hc hlo hlt
            go_wp2
            go_ret2
            exact ⟨by unfold dec0; rw [HD.out]; rfl, rfl⟩
      · obtain rfl : k = 3 := by omega
        obtain ⟨f1, f2⟩ := dfin_3 s HB.out (by omega) HC.out z HZ.out
        by_cases hbad : z < 2048 ∨ z > 1114111 ∨ (55296 ≤ z ∧ z < 57344)
        · have HD := Lib.hid (f1 hbad)
          clear f1 f2
          by_cases g1 : z < 2048
          · clear hbad
            go_wp2
            go_ret2
            exact ⟨by unfold dec0; rw [HD.out]; rfl, rfl⟩
          · by_cases g2 : z > 1114111
            · clear hbad
              go_wp2
              go_ret2
              exact ⟨by unfold dec0; rw [HD.out]; rfl, rfl⟩
            · have g3 : 55296 ≤ z := by omega
              have g4 : z < 57344 := by omega
              clear hbad
              go_wp2
              go_ret2
              exact ⟨by unfold dec0; rw [HD.out]; rfl, rfl⟩
        · have HD := Lib.hid (f2 hbad)
          clear f1 f2
          have g1 : ¬ z < 2048 := by omega
          have g2 : ¬ z > 1114111 := by omega
          have hfin : dec0 s = .tuple #[.int .i32 z, .int .i64 3] := by
            unfold dec0; rw [HD.out]; simp only; rw [Int.toNat_of_nonneg hz0]; rfl
          have HF := Lib.hid hfin; clear hfin
          by_cases g3 : z < 55296
          · have g3' : ¬ 55296 ≤ z := by omega
            clear hbad
            go_wp2
            go_ret2
            exact ⟨by rw [HF.out]; rfl, rfl⟩
          · have g3' : 55296 ≤ z := by omega
            have g4 : ¬ z < 57344 := by omega
            clear hbad
            go_wp2
            go_ret2
            exact ⟨by rw [HF.out]; rfl, rfl⟩

/-! ### a lead byte from 240 to 247: 4 bytes -/
theorem dbad_4 (s : ByteArray) (hb : 240 ≤ byt s 0 ∧ byt s 0 < 248) (h : s.size < 4 ∨ ¬ conts s 4) : Utf8.decode s 0 = (65533, 1) := by
  have hc : s.size < 4 ∨ ¬ cont s 1 ∨ ¬ cont s 2 ∨ ¬ cont s 3 := by
    rcases h with h | h
    · exact .inl h
    · refine .inr (Classical.byContradiction fun hn => h fun j h1 h2 => ?_)
      have hj : j = 1 ∨ j = 2 ∨ j = 3 := by omega
      rcases hj with rfl | rfl | rfl
      all_goals exact Classical.byContradiction fun hk => hn (by simp [hk])
  unfold cont at hc
  have l1 := byt_lt s 1
  have l2 := byt_lt s 2
  have l3 := byt_lt s 3
  rw [decode0]; unfold Lib.decodeN
  repeat' split
  all_goals first | rfl | omega
theorem dfin_4 (s : ByteArray) (hb : 240 ≤ byt s 0 ∧ byt s 0 < 248) (hs : 4 ≤ s.size) (h : conts s 4) (z : Int) (hz : z = accK s (byt s 0 - 240) 4) :
    ((z < 65536 ∨ z > 1114111 ∨ (55296 ≤ z ∧ z < 57344)) → Utf8.decode s 0 = (65533, 1)) ∧ (¬ (z < 65536 ∨ z > 1114111 ∨ (55296 ≤ z ∧ z < 57344)) → Utf8.decode s 0 = (z.toNat, 4)) := by
  have c1 := h 1 (by omega) (by omega)
  have c2 := h 2 (by omega) (by omega)
  have c3 := h 3 (by omega) (by omega)
  unfold cont at c1 c2 c3
  simp only [accK] at hz
  rw [decode0]
  generalize byt s 0 = b0 at *
  generalize byt s 1 = b1 at *
  generalize byt s 2 = b2 at *
  generalize byt s 3 = b3 at *
  constructor
  · intro hh
    unfold Lib.decodeN
    repeat' split
    all_goals first | rfl | omega
  · intro hh
    unfold Lib.decodeN
    repeat' split
    all_goals first | omega | (apply Prod.ext <;> simp only <;> omega)

set_option maxRecDepth 100000 in
set_option maxHeartbeats 1000000 in
theorem decode_4 (s : ByteArray) (w : World) (hs : s.size ≤ maxLen) (h0 : 0 < s.size) (hb : 240 ≤ byt s 0 ∧ byt s 0 < 248) :
    Calls Try.prog 28 #[.string s] w fun e w' => e = .returned (dec0 s) ∧ w = w' := by
  unfold maxLen at hs
  have hne : s.toList.isEmpty = false := not_empty s h0
  have h1 : 240 ≤ ((s[0]'h0).toNat : Int) := by rw [byt_at]; omega
  have h2 : ((s[0]'h0).toNat : Int) < 248 := by rw [byt_at]; omega
  have HB := Lib.hid hb; clear hb
  by_cases hz : s.size < 4
  · have hz' : (s.size : Int) < 4 := by omega
    have HD := Lib.hid (dbad_4 s HB.out (.inl hz)); clear hz
    go_enter Try.func28, Try.ntmps28
    go_wp2
    go_ret2
    exact ⟨by unfold dec0; rw [HD.out]; rfl, rfl⟩
  · have hz' : ¬ (s.size : Int) < 4 := by omega
    go_enter Try.func28, Try.ntmps28
    go_wp2
    go_loop [7, 8] (fun r i => ∃ (k : Nat) (z : Int), 1 ≤ k ∧ k ≤ 4 ∧ i = .int .i64 k ∧ r = .int .i32 z ∧ 0 ≤ z ∧ z < bnd k ∧ Hid (z = accK s (byt s 0 - 240) k) ∧ Hid (conts s k)) (fun _ i => 4 - (intOf i).toNat)
    case atStart =>
      have hb := HB.out
      exact ⟨1, ((s[0]'h0).toNat : Int) - 240, by omega, by omega, rfl, rfl, by omega, by simp only [bnd]; omega, by unfold Hid; rw [byt_at]; rfl, fun j _ _ => by omega⟩
    case round =>
      obtain ⟨k, z, hk1, hk2, rfl, rfl, hz0, hz1, HZ, HC⟩ := hrel
      by_cases hk : k < 4
      · have hks : k < s.size := by omega
        have hz2 : z < 131072 := by have := bnd_le k hk1 (by omega); omega
        have hlt := byt_lt s k
        have HZ1 := Lib.hid hz1; clear hz1
        by_cases hc : cont s k
        · have hc1 : 128 ≤ ((s[k]'hks).toNat : Int) := by rw [byt_at]; unfold cont at hc; omega
          have hc2 : ((s[k]'hks).toNat : Int) ≤ 191 := by rw [byt_at]; unfold cont at hc; omega
          have HCK := Lib.hid hc; clear hc
          clear hlt
          go_wp2
          go_round
          case rel =>
            refine ⟨k + 1, z * 64 + (s[k]'hks).toNat - 128, by omega, by omega, by go_num, rfl, by omega, bnd_succ k z _ hk1 (by omega) HZ1.out hc2, ?_, ?_⟩
            · unfold Hid; rw [accK_succ _ _ _ hk1, byt_at, ← HZ.out]
            · intro j j1 j2
              by_cases hj : j = k
              · subst hj; exact HCK.out
              · exact HC.out j j1 (by omega)
          case measure => simp [intOf]; omega
        · have HD : Hid (Utf8.decode s 0 = (65533, 1)) := dbad_4 s HB.out (.inr fun h => hc (h k hk1 hk))
          by_cases hlo : byt s k < 128
          · have hc1 : ((s[k]'hks).toNat : Int) < 128 := by rw [byt_at]; omega
            clear hc hlo hlt
            go_wp2
            go_ret2
            exact ⟨by unfold dec0; rw [HD.out]; rfl, rfl⟩
          · have hc1 : 128 ≤ ((s[k]'hks).toNat : Int) := by rw [byt_at]; omega
            have hc2 : 191 < ((s[k]'hks).toNat : Int) := by rw [byt_at]; unfold cont at hc; omega
            clear hc hlo hlt
            go_wp2
            go_ret2
            exact ⟨by unfold dec0; rw [HD.out]; rfl, rfl⟩
      · obtain rfl : k = 4 := by omega
        obtain ⟨f1, f2⟩ := dfin_4 s HB.out (by omega) HC.out z HZ.out
        by_cases hbad : z < 65536 ∨ z > 1114111 ∨ (55296 ≤ z ∧ z < 57344)
        · have HD := Lib.hid (f1 hbad)
          clear f1 f2
          by_cases g1 : z < 65536
          · clear hbad
            go_wp2
            go_ret2
            exact ⟨by unfold dec0; rw [HD.out]; rfl, rfl⟩
          · by_cases g2 : z > 1114111
            · clear hbad
              go_wp2
              go_ret2
              exact ⟨by unfold dec0; rw [HD.out]; rfl, rfl⟩
            · have g3 : 55296 ≤ z := by omega
              have g4 : z < 57344 := by omega
              clear hbad
              go_wp2
              go_ret2
              exact ⟨by unfold dec0; rw [HD.out]; rfl, rfl⟩
        · have HD := Lib.hid (f2 hbad)
          clear f1 f2
          have g1 : ¬ z < 65536 := by omega
          have g2 : ¬ z > 1114111 := by omega
          have hfin : dec0 s = .tuple #[.int .i32 z, .int .i64 4] := by
            unfold dec0; rw [HD.out]; simp only; rw [Int.toNat_of_nonneg hz0]; rfl
          have HF := Lib.hid hfin; clear hfin
          by_cases g3 : z < 55296
          · have g3' : ¬ 55296 ≤ z := by omega
            clear hbad
            go_wp2
            go_ret2
            exact ⟨by rw [HF.out]; rfl, rfl⟩
          · have g3' : 55296 ≤ z := by omega
            have g4 : ¬ z < 57344 := by omega
            clear hbad
            go_wp2
            go_ret2
            exact ⟨by rw [HF.out]; rfl, rfl⟩

/-- quintainref1.Decode at a text that is not empty: the model's own decoder at place 0. -/
theorem decode_any (s : ByteArray) (w : World) (hs : s.size ≤ maxLen) (h0 : 0 < s.size) :
    Calls Try.prog 28 #[.string s] w fun e w' => e = .returned (dec0 s) ∧ w = w' := by
  by_cases h1 : byt s 0 < 128
  · exact decode_1 s w hs h0 h1
  by_cases h2 : byt s 0 < 192
  · exact decode_0 s w hs h0 (.inl ⟨by omega, h2⟩)
  by_cases h3 : byt s 0 < 224
  · exact decode_2 s w hs h0 ⟨by omega, h3⟩
  by_cases h4 : byt s 0 < 240
  · exact decode_3 s w hs h0 ⟨by omega, h4⟩
  by_cases h5 : byt s 0 < 248
  · exact decode_4 s w hs h0 ⟨by omega, h5⟩
  · exact decode_0 s w hs h0 (.inr (by omega))
end Go.Proofs.Ytbmhdinaofepdaa
