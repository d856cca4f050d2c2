/- WALKS over package state: isPage; the law's Of. -/
import Derived.Test.YtbmhdinaofepdaaGa
namespace Go.Proofs.Ytbmhdinaofepdaa
open Go.RowKit
set_option linter.unusedVariables false

/-- a number that is a page's -/
def pgB (i : Int) : Bool := decide (0 ≤ i) && decide (i < 4)
theorem ret_b {a b : Bool} (h : a = b) : Ending.returned (.bool a) = .returned (.bool b) := by rw [h]
/-- a game of no numbers -/
def zG (n : Nat) : List Int := List.replicate n 0
/-- a game of a list of numbers -/
def ofL (l : List Int) : List Int := l.take 32 ++ List.replicate (32 - l.length) 0
theorem ofL_length (l : List Int) : (ofL l).length = 32 := by unfold ofL; simp; omega
theorem zG_length (n : Nat) : (zG n).length = n := by unfold zG; simp
theorem ofL_zG (l : List Int) : (ofL l).length = (zG 32).length := by rw [ofL_length, zG_length]
theorem ofL_nil : ofL [] = zG 32 := rfl
theorem ofL_step (l : List Int) (k : Nat) (h : k < l.length) (h32 : k < 32) : ofL (l.take (k + 1)) = (ofL (l.take k)).set k l[k] := by
  apply List.ext_getElem
  · simp [ofL_length]
  · intro j h1 h2
    rw [ofL_length] at h1
    rw [List.getElem_set]
    unfold ofL
    simp only [List.getElem_append, List.getElem_take, List.length_take, List.getElem_replicate]
    split <;> split <;> first | rfl | (split <;> first | rfl | omega | (subst_vars; rfl)) | omega | (subst_vars; rfl)
theorem ofL_full (l : List Int) (k : Nat) (h : k = l.length ∨ k = 32) (h2 : k ≤ l.length) (h3 : k ≤ 32) : ofL (l.take k) = ofL l := by
  rcases h with rfl | rfl
  · rw [List.take_length]
  · unfold ofL; rw [List.take_take]; simp; omega
theorem infoState : (Try.prog.info? 31).map (·.size) = some 32 := by kernel_rfl
theorem zeroState (w : World) : (zeroValue 31).run Try.prog w = .ok (.agg (gC (zG 32))) w :=
  (zero_of_info (P := Try.prog) (t := 31) (v := .agg (gC (zG 32))) (n := 32) (by kernel_rfl)).1 w

theorem of_any (A : Option Addr) (l : List Int) (cap : Nat) (w : World) (hr : RG w w.heap.size A l) (hc : l.length ≤ cap) (hm : cap ≤ maxLen) :
    Calls Try.prog 10 #[.slice A l.length cap] w fun e w' => e = .returned (.agg (gC (ofL l))) ∧ Below w.heap.size w w' := by
  have hz := zeroState
  have HR := Lib.hid hr; clear hr
  have hmx := hm
  unfold maxLen at hmx
  go_enter Try.func10, Try.ntmps10
  go_wp2_with fail
  have G0 := Lib.hid ((GA.new w 31 (zG 32)).alloc (.cells (gC (zG 32)) 31))
  have G1 := Lib.hid (GA.new (w.alloc (.cells (gC (zG 32)) 31)) 31 (zG 32))
  have B1 := Lib.hid (((Below.refl w.heap.size w).alloc (Nat.le_refl _) (.cells (gC (zG 32)) 31)).alloc (by simp) (.cells (gC (zG 32)) 31))
  clear hz
  go_loopw [4] (fun i wr => ∃ k : Nat, i = .int .i64 k ∧ k ≤ 32 ∧ k ≤ l.length ∧ Hid (GA wr w.heap.size 31 (zG 32)) ∧ Hid (GA wr (w.heap.size + 1) 31 (ofL (l.take k))) ∧ Hid (Below w.heap.size w wr)) (fun i _ => 32 - (intOf i).toNat)
  case atStart => exact ⟨0, rfl, by omega, by omega, G0, by simpa [Hid, ofL_nil] using G1.out, B1⟩
  case round =>
    obtain ⟨k, rfl, hk, hkl, H0, H1, HB⟩ := hrel
    have hfin : (k = l.length ∨ k = 32) → Hid (GA wr (w.heap.size + 1) 31 (ofL l)) := fun h => by have := H1.out; rw [ofL_full l k h hkl hk] at this; exact this
    by_cases h2 : k < l.length
    · have h2c : (k : Int) < (l.length : Int) := by omega
      by_cases h1 : k < 32
      · clear hfin
        have h1c : (k : Int) < 32 := by omega
        obtain ⟨b, off, rfl, hbB, hcell⟩ := (HR.out.below HB.out) (by omega)
        have hx := hcell k h2
        obtain ⟨x, hxe⟩ : ∃ x, l[k] = x := ⟨_, rfl⟩
        rw [hxe] at hx
        have hy := H1.out.cell k (by rw [ofL_length]; omega)
        have hfz := H1.out.frozen k
        have HS := Lib.hid (show ofL (l.take (k + 1)) = (ofL (l.take k)).set k x by rw [ofL_step l k h2 h1, hxe])
        clear hcell hxe
        generalize (ofL (l.take k))[k]'(by rw [ofL_length]; omega) = y at hy
        go_wp2
        go_round
        case rel => exact ⟨k + 1, by go_num, by omega, by omega, H0.out.other _ _ (by simp), by unfold Hid; rw [HS.out]; exact H1.out.set k x, HB.out.setCell (by simp) _⟩
        case measure => simp [intOf]; omega
      · have HE := hfin (by omega)
        clear hfin
        have h1c : ¬ (k : Int) < 32 := by omega
        go_wp2_with (first
          | (with_reducible refine wpList_load_g rfl 31 (.tmp 3) rfl (w.heap.size + 1) (by with_unfolding_all rfl) 31 (ofL l) HE.out Try.underlying31 (by rw [ofL_length]; exact infoState) ?_)
          | (with_reducible refine wpList_store_g rfl 31 (.tmp 2) (.tmp 21) rfl w.heap.size (by with_unfolding_all rfl) 31 (zG 32) (ofL l) H0.out (by with_unfolding_all rfl) (ofL_zG l) (by rw [ofL_length]; exact infoState) ?_; intro w3 G3 S3 R3))
        exact bodyPost_ret (results_g rfl G3 rfl Try.underlying31 (by rw [ofL_length]; exact infoState)) rfl ⟨rfl, HB.out.grown R3 HB.out.size (by simp)⟩
    · have HE := hfin (by omega)
      clear hfin
      have h2c : ¬ (k : Int) < (l.length : Int) := by omega
      go_wp2_with (first
        | (with_reducible refine wpList_load_g rfl 31 (.tmp 3) rfl (w.heap.size + 1) (by with_unfolding_all rfl) 31 (ofL l) HE.out Try.underlying31 (by rw [ofL_length]; exact infoState) ?_)
        | (with_reducible refine wpList_store_g rfl 31 (.tmp 2) (.tmp 21) rfl w.heap.size (by with_unfolding_all rfl) 31 (zG 32) (ofL l) H0.out (by with_unfolding_all rfl) (ofL_zG l) (by rw [ofL_length]; exact infoState) ?_; intro w3 G3 S3 R3))
      exact bodyPost_ret (results_g rfl G3 rfl Try.underlying31 (by rw [ofL_length]; exact infoState)) rfl ⟨rfl, HB.out.grown R3 HB.out.size (by simp)⟩
end Go.Proofs.Ytbmhdinaofepdaa
