/- WALKS over package snap: Live, Pages. -/
import Derived.Test.YtkmkjfbbpeocdaaWl
import Derived.Test.YtkmkjfbbpeocdaaSp
import Derived.Lib.SlKeysI
namespace Go.Proofs.Ytkmkjfbbpeocdaa
set_option maxRecDepth 100000
open Go.RowKit Go.Maps
set_option linter.unusedVariables false
set_option linter.unusedSimpArgs false

/-- the number in a slot, for a measure -/
def numI : Value → Int
  | .int _ q => q
  | _ => 0
def liveK (L : List Pc) (k : Nat) : Bool := match L[k]? with
  | some c => decide (0 < c.r)
  | none => false
theorem liveK_iff (L : List Pc) (k : Nat) : liveK L k = true ↔ ∃ c, L[k]? = some c ∧ 0 < c.r := by
  unfold liveK
  cases h : L[k]? with
  | none => simp
  | some c => simp
/-- the numbers of the pictures that are live, rising -/
def liveIds (L : List Pc) : List Int := ((List.range L.length).filter (liveK L)).map fun k : Nat => (k : Int) + 1
theorem liveIds_mem (L : List Pc) (x : Int) : x ∈ liveIds L ↔ ∃ (k : Nat) (c : Pc), x = k + 1 ∧ L[k]? = some c ∧ 0 < c.r := by
  unfold liveIds
  rw [List.mem_map]
  constructor
  · rintro ⟨k, hk, rfl⟩
    rw [List.mem_filter, liveK_iff] at hk
    obtain ⟨_, c, h1, h2⟩ := hk
    exact ⟨k, c, rfl, h1, h2⟩
  · rintro ⟨k, c, rfl, h1, h2⟩
    exact ⟨k, by rw [List.mem_filter, List.mem_range, liveK_iff]; exact ⟨(List.getElem?_eq_some_iff.1 h1).1, c, h1, h2⟩, rfl⟩
theorem liveIds_sorted (L : List Pc) : (liveIds L).Pairwise (· < ·) := by
  unfold liveIds
  refine List.pairwise_map.2 ((List.pairwise_lt_range.filter _).imp ?_)
  intro a b h; omega
theorem liveIds_nodup (L : List Pc) : (liveIds L).Nodup := (liveIds_sorted L).imp (fun h e => by omega)
theorem liveIds_len (L : List Pc) : (liveIds L).length ≤ L.length := by
  unfold liveIds
  rw [List.length_map]
  exact Nat.le_trans (List.length_filter_le _ _) (by simp)
theorem sorted_live {L : List Pc} {D : DataW Nat} {w : World} {b n : Nat} (hown : w.ownsMap Try.prog 40 ptrR b n D) (hM : MapOf D L) {ss : List Int} (hp : ss.Perm (intKeys D)) : ss.mergeSort leI = liveIds L ∧ ss.length = (liveIds L).length := by
  have hc : CollectedI D (fun _ => false) (liveIds L) := ⟨liveIds_nodup L, fun x => by
    rw [liveIds_mem]
    simp only [and_true]
    constructor
    · rintro ⟨k, c, rfl, h1, h2⟩
      exact has_true_of_atKey (hM.live k c h1 h2)
    · intro h
      refine Classical.byContradiction (fun hn => ?_)
      have h2 := hM.dead x (fun k c e h1 h2 => hn ⟨k, c, e, h1, h2⟩)
      unfold kl at h2
      rw [h2] at h; cases h⟩
  have hq : ss.Perm (liveIds L) := hp.trans (hc.perm hown (int_keyed Try.underlying40) Try.underlying40 (fun _ => rfl)).symm
  refine ⟨(mergeSort_of_perm_i hq).trans ?_, hq.length_eq⟩
  exact List.mergeSort_of_pairwise ((liveIds_sorted L).imp (fun h => by simp [leI]; omega))
theorem live_sorts (m : Nat) : AnyZI.SortsIn Try.prog Try.sortedA_ren Fence.wide m :=
  ⟨fun blk off cap ss W hH hblk hsz => callsIn_wide.2 (AnyM.slices_Sort_int Try.sortA blk off cap ss W hH hblk hsz),
   fun p cap W => callsIn_wide.2 (AnyM.slices_Sort_int_none Try.sortA p cap W)⟩
theorem live_nil (w : World) :
    Calls Try.prog 25 #[.pointer none] w fun e w' => e = .returned (.slice none 0 0) ∧ w = w' := by
  go_enter Try.func25, Try.ntmps25
  go_wp2
  go_ret
  exact ⟨rfl, rfl⟩
set_option maxHeartbeats 1000000 in
theorem live_any (w : World) (S P A M : Nat) (l : List Sh) (L : List Pc) (h : SM w S P A M l L) (hL : L.length ≤ 1000) :
    Calls Try.prog 25 #[.pointer (some ⟨S, 0, none⟩)] w fun e w' => ∃ v, e = .returned v ∧ w'.ownsRow w.heap.size 40 1 v (liveIds L).length ((liveIds L).map encZ) ∧ Below w.heap.size w w' := by
  obtain ⟨D0, hown, hMo⟩ := h.map
  have hsz := hown.size_le
  have hmax : Maps.size D0 ≤ maxLen := by unfold maxLen; omega
  have hbytes : Maps.size D0 * 8 ≤ 140737488355328 := by omega
  have c3 := h.c3
  have HS := Lib.hid (fun (ss : List Int) (hp : ss.Perm (intKeys D0)) => sorted_live hown hMo hp)
  refine (callsIn_wide (n := 6)).1 ?_
  have hbl := hown.lt
  have hseq : SeqGives Fence.wide 2 Try.prog 56 #[.pointer (some ⟨w.heap.size, 0, none⟩)] encZ (fun ss => ss.Perm (intKeys D0)) (Maps.size D0) (w.alloc (.cells #[.map (some M)] 64)) :=
    AnyZI.keys_gives (ρ := Try.keysA_ren) { Try.keysA with } Fence.wide _ trivial rfl (by omega) w.heap.size M L.length D0 _ (by simp) (by simp) (by
      obtain ⟨es, clock, hb, Ft, hs, hD⟩ := hown
      exact ⟨es, clock, (Below.heap_alloc _ _ M hbl).trans hb, Ft, hs, hD⟩)
  have cK : ∀ mb W, CallsIn Fence.wide 5 Try.prog 47 #[.map mb] W fun e w' => e = .returned (.func (.func 56) #[] #[.pointer (some ⟨W.heap.size, 0, none⟩)]) ∧ w' = W.alloc (.cells #[.map mb] 64) := fun mb W => AnyZI.keys_in Try.keysA Fence.wide 5 trivial rfl mb W
  have cS := AnyZI.sorted_in Try.sortedA Fence.wide 5 trivial trivial trivial trivial rfl (by omega) (live_sorts _) (enters_of Try.func55 (by kernel_rfl) rfl) 56 #[.pointer (some ⟨w.heap.size, 0, none⟩)] trivial (enters_of Try.func56 (by kernel_rfl) rfl) _ _ hmax hbytes _ hseq
  change CallsIn _ _ Try.prog 46 _ _ _ at cS
  have hfK : Fence.wide.fn 47 := trivial
  have hfS : Fence.wide.fn 46 := trivial
  clear h hown hMo hseq hsz hmax hbytes
  refine callsIn_of_wp Try.func25 rfl trivial ?_ rfl
  simp only [Try.ntmps25, List.size_toArray, List.length_cons, List.length_nil, Nat.reduceAdd, Nat.reduceSub, Array.replicate_succ, Array.replicate_zero, List.push_toArray, List.append_toArray, List.nil_append, List.cons_append]
  gi_wp2_with (first
    | (gi_at_call 47; refine (cK _ _).mono ?_; rintro e w' ⟨rfl, rfl⟩)
    | (gi_at_call 46; refine cS.mono ?_; rintro e w' ⟨v, ss, rfl, hS, hrow, hnil, hb⟩))
  go_ret
  obtain ⟨e1, e2⟩ := HS.out ss hS
  refine ⟨v, rfl, ?_, ((Below.refl _ w).alloc (Nat.le_refl _) _).trans (hb.mono (by simp))⟩
  rw [← e2, ← e1]
  exact ownsRow_base_a hrow (by simp)
end Go.Proofs.Ytkmkjfbbpeocdaa
