/- WALKS over package state: Decode. -/
import Derived.Test.YtbhmageepocmcaaDoorGe
namespace Go.Proofs.YtbhmageepocmcaaDoor
open Go.RowKit
set_option linter.unusedVariables false

/-- the game of some bytes -/
def decG (l : List UInt8) : List Int := (List.range 32).map fun j => gt4 (l.drop (4 * j))
theorem decG_length (l : List UInt8) : (decG l).length = 32 := by unfold decG; simp
theorem decG_get (l : List UInt8) (k : Nat) (h : k < 32) : (decG l)[k]'(by rw [decG_length]; exact h) = gt4 (l.drop (4 * k)) := by unfold decG; simp
theorem ofL_same (g : List Int) (h : g.length = 32) : ofL g = g := by unfold ofL; rw [h, List.take_of_length_le (by omega)]; simp
theorem buildState (w : World) : (Instr.build 25 #[]).run Tryd.prog w = .ok (.agg (gC (zG 32))) w := by kernel_rfl

set_option maxHeartbeats 1000000 in
theorem decode_bad (A : Option Addr) (l : List UInt8) (cap : Nat) (w : World) (hr : RB w w.heap.size A l) (hc : l.length ≤ cap) (hm : cap ≤ maxLen) (hl : l.length ≠ 128) :
    Calls Tryd.prog 8 #[.slice A l.length cap] w fun e w' => e = .returned (.tuple #[.agg (gC (zG 32)), .int .i64 1]) ∧ Below w.heap.size w w' := by
  have hz := zeroState
  have hbu := buildState
  have hi32 : (zG 32).length = 32 := zG_length 32
  have hne : (((l.length : Int) == 128) : Bool) = false := by rw [beq_eq_false_iff_ne]; omega
  have hne2 : ¬ (l.length : Int) = 128 := by omega
  have G0 : Hid (GA (w.alloc (.cells (gC (zG 32)) 25)) w.heap.size 25 (zG 32)) := Lib.hid (GA.new w 25 (zG 32))
  have B0 := Lib.hid ((Below.refl w.heap.size w).alloc (Nat.le_refl _) (.cells (gC (zG 32)) 25))
  clear hl
  go_enter Tryd.func8, Tryd.ntmps8
  go_wp2_with (first
    | (with_reducible refine wpList_store_g rfl 25 (.tmp 2) (.tmp 9) rfl _ (by with_unfolding_all rfl) 25 (zG 32) (zG 32) G0.out (by with_unfolding_all rfl) rfl (by rw [hi32]; exact infoState) ?_; intro w3 G3 S3 R3))
  exact bodyPost_ret (results_g2 rfl G3 rfl rfl Tryd.underlying25 (by rw [hi32]; exact infoState)) rfl ⟨rfl, B0.out.grown R3 B0.out.size (by simp)⟩

set_option maxHeartbeats 1000000 in
theorem decode_good (A : Option Addr) (l : List UInt8) (cap : Nat) (w : World) (hr : RB w w.heap.size A l) (hc : 128 ≤ cap) (hm : cap ≤ maxLen) (hl : l.length = 128) :
    Calls Tryd.prog 8 #[.slice A 128 cap] w fun e w' => e = .returned (.tuple #[.agg (gC (decG l)), .int .i64 0]) ∧ Below w.heap.size w w' := by
  have hz := zeroState
  have hi32 : (zG 32).length = 32 := zG_length 32
  have HR := Lib.hid hr
  obtain ⟨b, off, rfl, hbB, _⟩ := hr (by omega)
  have G0 : Hid (GA ((w.alloc (.cells (gC (zG 32)) 25)).alloc (.cells (gC (zG 32)) 25)) w.heap.size 25 (zG 32)) := Lib.hid ((GA.new w 25 (zG 32)).alloc _)
  have G1 : Hid (GA ((w.alloc (.cells (gC (zG 32)) 25)).alloc (.cells (gC (zG 32)) 25)) (w.heap.size + 1) 25 (zG 32)) := Lib.hid (GA.new_at _ _ _ _ (by simp))
  have B1 := Lib.hid (((Below.refl w.heap.size w).alloc (Nat.le_refl _) (.cells (gC (zG 32)) 25)).alloc (by simp) (.cells (gC (zG 32)) 25))
  have HL := Lib.hid hl; clear hl
  have hmx := hm
  unfold maxLen at hmx
  go_enter Tryd.func8, Tryd.ntmps8
  go_wp2_with fail
  clear hz
  go_loopw [10] (fun i wr => ∃ k : Nat, i = .int .i64 k ∧ k ≤ 32 ∧ Hid (GA wr w.heap.size 25 (zG 32)) ∧ Hid (GA wr (w.heap.size + 1) 25 (ofL ((decG l).take k))) ∧ Hid (Below w.heap.size w wr)) (fun i _ => 32 - (intOf i).toNat)
  case atStart => exact ⟨0, rfl, by omega, G0, by simpa [Hid, ofL_nil] using G1.out, B1⟩
  case round =>
    obtain ⟨k, rfl, hk, H0, H1, HB⟩ := hrel
    by_cases h1 : k < 32
    · have h1c : (k : Int) < 32 := by omega
      have hy := H1.out.cell k (by rw [ofL_length]; omega)
      have hfz := H1.out.frozen k
      obtain ⟨x, hx⟩ : ∃ x, gt4 (l.drop (4 * k)) = x := ⟨_, rfl⟩
      have HS := Lib.hid (show ofL ((decG l).take (k + 1)) = (ofL ((decG l).take k)).set k x by rw [ofL_step (decG l) k (by rw [decG_length]; omega) h1, decG_get l k h1, hx])
      generalize (ofL ((decG l).take k))[k]'(by rw [ofL_length]; omega) = y at hy
      have HG : Hid (Calls Tryd.prog 15 #[.slice (some ⟨b, off + 4 * k, none⟩) (128 - 4 * k) (cap - 4 * k)] wr fun e w' => e = .returned (.int .i32 x) ∧ wr = w') := by
        have hcut := (HR.out.below HB.out).cut (4 * k) cap (by rw [HL.out]; omega) (by rw [HL.out]; omega)
        rw [if_neg (by omega), Option.map_some, Addr.add_lit] at hcut
        have := get_any (some ⟨b, off + 4 * k, none⟩) (l.drop (4 * k)) (cap - 4 * k) _ wr hcut (by rw [List.length_drop, HL.out]; omega) (by omega)
        rw [List.length_drop, HL.out, hx] at this
        exact this
      clear hx
      have hto : ((k : Int) * 4).toNat = 4 * k := by omega
      go_wp2_with (go_at_call 15; refine HG.out.mono ?_; rintro e w' ⟨rfl, rfl⟩)
      go_round
      case rel => exact ⟨k + 1, by go_num, by omega, H0.out.other _ _ (by simp), by unfold Hid; rw [HS.out]; exact H1.out.set k x, HB.out.setCell (by simp) _⟩
      case measure => simp [intOf]; omega
    · obtain rfl : k = 32 := by omega
      have h1c : ¬ ((32 : Nat) : Int) < 32 := by omega
      have HE : Hid (GA wr (w.heap.size + 1) 25 (decG l)) := by have := H1.out; rw [List.take_of_length_le (by rw [decG_length]; omega), ofL_same _ (decG_length l)] at this; exact this
      have hdl := decG_length l
      clear H1
      go_wp2_with (first
        | (with_reducible refine wpList_load_g rfl 25 (.tmp 4) rfl _ (by with_unfolding_all rfl) 25 (decG l) HE.out Tryd.underlying25 (by rw [hdl]; exact infoState) ?_)
        | (with_reducible refine wpList_store_g rfl 25 (.tmp 2) (.tmp 21) rfl _ (by with_unfolding_all rfl) 25 (zG 32) (decG l) H0.out (by with_unfolding_all rfl) (by rw [hdl, hi32]) (by rw [hdl]; exact infoState) ?_; intro w3 G3 S3 R3))
      exact bodyPost_ret (results_g2 rfl G3 rfl rfl Tryd.underlying25 (by rw [hdl]; exact infoState)) rfl ⟨rfl, HB.out.grown R3 HB.out.size (by simp)⟩
/-- what Decode tells of some bytes -/
def decV (l : List UInt8) : List Int := if l.length = 128 then decG l else zG 32
def decE (l : List UInt8) : Int := if l.length = 128 then 0 else 1
theorem decode_any (A : Option Addr) (l : List UInt8) (cap : Nat) (w : World) (hr : RB w w.heap.size A l) (hc : l.length ≤ cap) (hm : cap ≤ maxLen) :
    Calls Tryd.prog 8 #[.slice A l.length cap] w fun e w' => e = .returned (.tuple #[.agg (gC (decV l)), .int .i64 (decE l)]) ∧ Below w.heap.size w w' := by
  unfold decV decE
  split
  · rename_i h
    rw [h]
    exact decode_good A l cap w hr (by omega) hm h
  · exact decode_bad A l cap w hr hc hm ‹_›
/-! ### there and back -/
theorem decG_encG (g : List Int) (hg : g.length = 32) (hbd : Bd g) : decG (encG g) = g := by
  apply List.ext_getElem
  · rw [decG_length, hg]
  · intro k h1 h2
    rw [decG_length] at h1
    rw [decG_get _ k h1]
    have e : (encG g).drop (4 * k) = s4 g[k] ++ encG (g.drop (k + 1)) := by
      have h3 : encG g = encG (g.take k) ++ encG (g.drop k) := by unfold encG; rw [← List.flatMap_append, List.take_append_drop]
      rw [h3, List.drop_append_of_le_length (by rw [encG_length, List.length_take]; omega), List.drop_of_length_le (by rw [encG_length, List.length_take]; omega), List.nil_append, List.drop_eq_getElem_cons h2]
      unfold encG; rw [List.flatMap_cons]
    obtain ⟨x1, x2⟩ := hbd _ (List.getElem_mem h2)
    have h4 := gt4_s4 g[k] x1 x2
    rw [e]
    unfold gt4 at *
    rw [if_pos (by simp [s4_length])]
    rw [if_pos (by rw [s4_length]; omega)] at h4
    rw [List.take_append_of_le_length (by rw [s4_length]; omega)]
    exact h4
theorem gt4_bd (l : List UInt8) : -2147483648 ≤ gt4 l ∧ gt4 l ≤ 2147483647 := by
  unfold gt4; split
  · exact ⟨rd_lo _, rd_hi _⟩
  · omega
theorem decG_bd (l : List UInt8) : Bd (decG l) := fun x hx => by
  unfold decG at hx
  obtain ⟨j, _, rfl⟩ := List.mem_map.1 hx
  exact gt4_bd _
theorem s4_four (a b c d : UInt8) : s4 (rd ((((0 * 256 + (a.toNat : Int)) * 256 + (b.toNat : Int)) * 256 + (c.toNat : Int)) * 256 + (d.toNat : Int))) = [a, b, c, d] := by
  have ha := a.toNat_lt; have hb := b.toNat_lt; have hc := c.toNat_lt; have hd := d.toNat_lt
  have key : ∀ (x : Int) (y : UInt8), x % 256 = (y.toNat : Int) → u8 x = y := fun x y h => by
    have := u8_nat x
    apply UInt8.toNat_inj.1; omega
  unfold s4
  rw [key _ a (by unfold rd; omega), key _ b (by unfold rd; omega), key _ c (by unfold rd; omega), key _ d (by unfold rd; omega)]
theorem s4_gt4 (l : List UInt8) (h : 4 ≤ l.length) : s4 (gt4 l) = l.take 4 := by
  match l, h with
  | a :: b :: c :: d :: t, h =>
    unfold gt4
    rw [if_pos h]
    exact s4_four a b c d
theorem encG_decG (l : List UInt8) (h : l.length = 128) : encG (decG l) = l := by
  have key : ∀ k, k ≤ 32 → encG ((decG l).take k) = l.take (4 * k) := by
    intro k
    induction k with
    | zero => intro _; rfl
    | succ k ih =>
      intro hk
      rw [encG_step _ k (by rw [decG_length]; omega), ih (by omega), decG_get l k (by omega), s4_gt4 _ (by rw [List.length_drop]; omega), show 4 * (k + 1) = 4 * k + 4 by omega, List.take_add]
  have := key 32 (Nat.le_refl _)
  rw [List.take_of_length_le (by rw [decG_length]; omega), List.take_of_length_le (by omega)] at this
  exact this
end Go.Proofs.YtbhmageepocmcaaDoor
