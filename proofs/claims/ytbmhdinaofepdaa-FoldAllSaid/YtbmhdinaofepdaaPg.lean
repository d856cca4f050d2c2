/- MEMORY: an own row of rows that came in; WALK of the laws' Presses. -/
import Derived.Test.YtbmhdinaofepdaaKt
import Derived.Test.YtbmhdinaofepdaaKw
import Derived.Test.YtbmhdinaofepdaaKd
namespace Go.Proofs.Ytbmhdinaofepdaa
set_option maxRecDepth 100000
open Go.RowKit
set_option linter.unusedVariables false
set_option linter.unusedSimpArgs false

theorem bs_info : (Try.prog.info? 43).map (fun i => (i.zero, i.size, i.bytes)) = some (some (.slice none 0 0), 1, 24) := by kernel_rfl
def sOne (u : Value) : Obj := .cells #[u] 43
theorem wpList_append_rows {w : World} {ops : Array Oper} {rest : List Oper} {o : Oper} {a : Act} {Q : Exit → Act → World → Prop} (hgd : o.guard = none) (s x : Operand)
    (ho : o.op = .call { callee := .builtin .append, args := #[s, x], argTypes := #[26, 26] })
    (base : Nat) (v : Value) (us : List Value) (u : Value) (hs : a.eval s = v) (hown : (w.alloc (sOne u)).ownsRow base 43 1 v us.length us) (h1 : u.oneCell' = true) (P : Nat) (hP : w.heap.size = P) (hx : a.eval x = .slice (some ⟨P, 0, none⟩) 1 1) (hlen : us.length ≤ 2000) (hbase : base ≤ w.heap.size)
    (h : ∀ v' w', w'.ownsRow base 43 1 v' (us.length + 1) (us ++ [u]) → (w.alloc (sOne u)).grownBy w' v.ownBlock → (v'.ownBlock = v.ownBlock ∨ v'.ownBlock = some (w.heap.size + 1)) → wpList Try.prog ops Q rest (a.put o.dst v') w') : wpList Try.prog ops Q (o :: rest) a (w.alloc (sOne u)) := by
  subst hP
  obtain ⟨i0, hi0, hz0, hz1, hz2⟩ := info_parts bs_info
  refine wpList_append_own_at (P := Try.prog) (w.alloc (sOne u)) hgd s x 26 ho base 43 i0 (.slice none 0 0) 1 24 Try.underlying26 hi0 hz0 hz1 hz2 rfl (by decide) v us.length _ hs hown ⟨w.heap.size, 0, none⟩ 1 1 [u] hx rfl (cell_one_new _ _ _) (by simp [h1]) (by unfold maxLen; omega) (by omega) (by rw [World.size_alloc]; omega) ?_
  intro v' w' h1 h2 _ h4
  exact h v' w' h1 h2 (by rw [World.size_alloc] at h4; exact h4)

/-- v is the law's own row of the rows ps, whose values are us; their bytes lie below block B -/
structure PR (w : World) (base B : Nat) (v : Value) (ps : List (List UInt8)) (us : List Value) : Prop where
  row : w.ownsRow base 43 1 v us.length us
  len : us.length = ps.length
  each : ∀ (j : Nat) (l : List UInt8), ps[j]? = some l → ∃ a c, us[j]? = some (Value.slice a l.length c) ∧ RB w B a l ∧ l.length ≤ c ∧ c ≤ maxLen
section
variable {w w' : World} {base B : Nat} {v : Value} {ps : List (List UInt8)} {us : List Value}
theorem PR.nil (w : World) (base B : Nat) : PR w base B (.slice none 0 0) [] [] := ⟨World.ownsRow_nil _ _ _ _, rfl, fun j l h => by simp at h⟩
theorem PR.lt (h : PR w base B v ps us) {k : Nat} (hk : v.ownBlock = some k) : base ≤ k ∧ k < w.heap.size := World.ownsRow.lt h.row k hk
/-- a row more -/
theorem PR.snoc {w4 : World} {v2 : Value} (h : PR w base B v ps us) (hB : B ≤ base) (hBw : base ≤ w.heap.size) (a : Option Addr) (l : List UInt8) (L c : Nat) (hL : l.length = L) (hr : RB w B a l) (hc : L ≤ c) (hm : c ≤ maxLen)
    (g : (w.alloc (sOne (.slice a L c))).grownBy w4 v.ownBlock) (h4 : w4.ownsRow base 43 1 v2 (us.length + 1) (us ++ [.slice a L c])) : PR w4 base B v2 (ps ++ [l]) (us ++ [.slice a L c]) := by
  subst hL
  have hb : Below B w w4 := (((Below.refl B w).alloc (by omega) _).grown g (by rw [World.size_alloc]; omega) (fun k hk => by have := (h.lt hk).1; omega))
  refine ⟨by rw [List.length_append]; exact h4, by rw [List.length_append, List.length_append, h.len]; rfl, fun j l' hj => ?_⟩
  rw [List.getElem?_append] at hj ⊢
  rw [h.len]
  split at hj
  · rename_i hlt
    rw [if_pos hlt]
    obtain ⟨a', c', e, r, q1, q2⟩ := h.each j l' hj
    exact ⟨a', c', e, r.below hb, q1, q2⟩
  · rename_i hlt
    rw [if_neg hlt]
    cases e : j - ps.length with
    | zero =>
      rw [e] at hj
      obtain rfl : l = l' := by simpa using hj
      exact ⟨a, c, rfl, hr.below hb, hc, hm⟩
    | succ n => rw [e] at hj; simp at hj
end
/-- rows in a block from lo to hi, their bytes below block B -/
def RQ (w : World) (B lo hi : Nat) (A : Option Addr) (ps : List (List UInt8)) : Prop :=
  0 < ps.length → ∃ g off, A = some ⟨g, off, none⟩ ∧ lo ≤ g ∧ g < hi ∧ ∀ j l, ps[j]? = some l → ∃ a c, PressAt w B ⟨g, off + j, none⟩ l a c
theorem RQ.rp {w : World} {B lo hi : Nat} {A : Option Addr} {ps : List (List UInt8)} (h : RQ w B lo hi A ps) (hB : B ≤ hi) : RP w hi A ps := fun h0 => by
  obtain ⟨g, off, e, h1, h2, hc⟩ := h h0
  refine ⟨g, off, e, h2, fun j l hj => ?_⟩
  obtain ⟨a, c, q⟩ := hc j l hj
  exact ⟨a, c, q.cell, q.rb.more hB, q.le, q.cm⟩
theorem RQ.below {w w' : World} {B lo hi X : Nat} {A : Option Addr} {ps : List (List UInt8)} (h : RQ w B lo hi A ps) (hb : Below X w w') (hX : hi ≤ X) (hB : B ≤ X) : RQ w' B lo hi A ps := fun h0 => by
  obtain ⟨g, off, e, h1, h2, hc⟩ := h h0
  refine ⟨g, off, e, h1, h2, fun j l hj => ?_⟩
  obtain ⟨a, c, q⟩ := hc j l hj
  exact ⟨a, c, (hb.cell (p := ⟨g, off + j, none⟩) (by show g < X; omega)).trans q.cell, q.rb.below (hb.mono hB), q.le, q.cm⟩
theorem RQ.up {w : World} {B lo hi hi' : Nat} {A : Option Addr} {ps : List (List UInt8)} (h : RQ w B lo hi A ps) (hh : hi ≤ hi') : RQ w B lo hi' A ps := fun h0 => by
  obtain ⟨g, off, e, h1, h2, hc⟩ := h h0
  exact ⟨g, off, e, h1, by omega, hc⟩
theorem cell_set_ne {w : World} {a p : Addr} {v : Value} (h : p.block ≠ a.block) : (w.setCell a v).cell? p = w.cell? p := World.cell?_of_block (Below.heap_setCell _ _ _ _ h)
/-- a store into a block between -/
theorem RQ.set {w : World} {B lo hi : Nat} {A : Option Addr} {ps : List (List UInt8)} (h : RQ w B lo hi A ps) (a : Addr) (v : Value) (h1 : B ≤ a.block) (h2 : a.block < lo) : RQ (w.setCell a v) B lo hi A ps := fun h0 => by
  obtain ⟨g, off, e, h3, h4, hc⟩ := h h0
  refine ⟨g, off, e, h3, h4, fun j l hj => ?_⟩
  obtain ⟨a', c, q⟩ := hc j l hj
  refine ⟨a', c, (cell_set_ne (by show g ≠ a.block; omega)).trans q.cell, fun hl => ?_, q.le, q.cm⟩
  obtain ⟨b, o, e2, hb, hcell⟩ := q.rb hl
  exact ⟨b, o, e2, hb, fun i hi => (cell_set_ne (by show b ≠ a.block; omega)).trans (hcell i hi)⟩
/-- what a caller reads, and where it lies -/
theorem PR.reads2 {w : World} {base B : Nat} {v : Value} {ps : List (List UInt8)} {us : List Value} (h : PR w base B v ps us) (n : Nat) (hn : ps.length = n) : ∃ A c, v = .slice A n c ∧ n ≤ c ∧ c ≤ maxLen ∧ RQ w B base w.heap.size A ps := by
  subst hn
  rcases h.row.2 with ⟨hv, h0⟩ | ⟨g, cap, cur, hv, h1, h2, h3, h4, h5, h6⟩
  · have h00 : ps.length = 0 := by have := h.len; omega
    refine ⟨none, 0, by rw [hv, h00], by omega, by unfold maxLen; omega, fun hp => by omega⟩
  · rw [h.len] at hv h3
    refine ⟨some ⟨g, 0, none⟩, cap, hv, h3, h4, fun _ => ⟨g, 0, rfl, h1, (Array.getElem?_eq_some_iff.1 h2).1, fun j l hj => ?_⟩⟩
    obtain ⟨a, c, e, r, q1, q2⟩ := h.each j l hj
    refine ⟨a, c, ?_, r, q1, q2⟩
    rw [Nat.zero_add, cell_of_row w g j _ _ _ h2]
    have hj2 : j < us.length := (List.getElem?_eq_some_iff.1 e).1
    have e2 := congrArg (·[j]?) h6
    simp only [Nat.mul_one, List.getElem?_take, hj2, if_true] at e2
    rw [e] at e2
    simpa using e2
/-- the presses that are taken: so many frames of nine at most -/
def cutP (k : Nat) (ps : List (List UInt8)) : List (List UInt8) := (ps.take k).map (List.take 9)
theorem cutP_len (k : Nat) (ps : List (List UInt8)) : (cutP k ps).length = min k ps.length := by unfold cutP; rw [List.length_map, List.length_take]
theorem cutP_take (k : Nat) (ps : List (List UInt8)) (i : Nat) (l : List UInt8) (hl : ps[i]? = some l) (hi : i < k) : (cutP k ps).take (i + 1) = (cutP k ps).take i ++ [l.take 9] := by
  have h : (cutP k ps)[i]? = some (l.take 9) := by unfold cutP; rw [List.getElem?_map, List.getElem?_take, if_pos hi, hl]; rfl
  rw [List.take_add_one, h]; rfl
set_option maxHeartbeats 1000000 in
theorem presses_any (A : Option Addr) (ps : List (List UInt8)) (cap k M : Nat) (w : World) (hM : ps.length = M) (B : Nat) (hB : B ≤ w.heap.size) (h : RP w B A ps) (hc : M ≤ cap) (hm : cap ≤ maxLen) (hk : k ≤ 12) (N : Nat) (hN : (cutP k ps).length = N) (K : Int) (hK : K = (k : Int)) :
    Calls Try.prog 9 #[.slice A M cap, .int .i64 K] w fun e w' => ∃ A' c', e = .returned (.slice A' N c') ∧ RQ w' B w.heap.size w'.heap.size A' (cutP k ps) ∧ N ≤ c' ∧ c' ≤ maxLen ∧ Below w.heap.size w w' := by
  subst hK
  obtain ⟨B0, hB0⟩ : ∃ B, w.heap.size = B := ⟨_, rfl⟩
  have HNN : Hid (N = min k M) := by show _ = _; rw [← hN, cutP_len, hM]
  have HRP := Lib.hid h; have HM := Lib.hid hM; have HB0 := Lib.hid hB0; have HBB : Hid (B ≤ B0) := (by rw [← hB0]; exact hB); have HN := Lib.hid hN
  have hmx := hm
  unfold maxLen at hmx
  have hM63 : M ≤ 9223372036854775807 := by omega
  have HB : Hid (Below B0 w w) := Below.refl _ _
  have HP0 : Hid (PR w B0 B (.slice none 0 0) ((cutP k ps).take 0) []) := PR.nil _ _ _
  clear h hM hB0 hN hmx hm hc hB
  go_enter Try.func9, Try.ntmps9
  go_wp2_with fail
  go_loopw [5, 6] (fun v5 v6 wr => ∃ (i : Nat) (us : List Value), v6 = .int .i64 (i : Int) ∧ i ≤ M ∧ i ≤ k ∧ Hid (PR wr B0 B v5 ((cutP k ps).take i) us) ∧ Hid (us.length = i) ∧ Hid (Below B0 w wr)) (fun _ v6 _ => k - (intOf v6).toNat)
  case atStart => exact ⟨0, [], rfl, by omega, by omega, HP0, rfl, HB⟩
  case round =>
    obtain ⟨i, us, rfl, hiM, hik, HPR, HUS, HBW⟩ := hrel
    clear HP0 HB
    by_cases hlt : i < M
    · have hiz : (i : Int) < (M : Int) := by omega
      by_cases hlk : i < k
      · have hkz : (i : Int) < (k : Int) := by omega
        obtain ⟨l, hl⟩ : ∃ l, ps[i]? = some l := ⟨_, List.getElem?_eq_getElem (by rw [HM.out]; exact hlt)⟩
        obtain ⟨L, hL⟩ : ∃ L, l.length = L := ⟨_, rfl⟩
        obtain ⟨X, hX⟩ : ∃ X, (l.take 9).length = X := ⟨_, rfl⟩
        obtain ⟨g, off, a, c, rfl, hgB, hq⟩ := (HRP.out.below (HBW.out.mono HBB.out)).at i l hl
        have hcell := hq.cell
        have hle := hq.le
        rw [hL] at hcell hle
        have HSh := Lib.hid (fun W => short_n a l L c 9 W hL (by omega) hle hq.cm X hX 9 rfl)
        have hXc : X ≤ c := by rw [List.length_take] at hX; omega
        have HX := Lib.hid hX
        have hrb : Hid (RB wr B a (l.take 9)) := hq.rb.take 9
        have HXc := Lib.hid hXc
        have HCM := Lib.hid hq.cm
        have HTk := Lib.hid (cutP_take k ps i l hl hlk)
        have hBw : Hid (B0 ≤ wr.heap.size) := by have := HBW.out.size; have := HB0.out; show _ ≤ _; omega
        have HRow : Hid ((wr.alloc (sOne (.slice a X c))).ownsRow B0 43 1 u5 us.length us) := by
          have h1 : wr.grownBy (wr.alloc (sOne (.slice a X c))) none := ⟨rfl, rfl, rfl, by simp, fun j hj _ => Below.heap_alloc _ _ _ hj⟩
          exact World.ownsRow.kept HPR.out.row h1 (Classical.em _)
        have hol : Hid (us.length ≤ 2000) := by show _ ≤ _; rw [HUS.out]; omega
        have H1c : Hid (Value.oneCell' (.slice a X c) = true) := rfl
        have hal : Hid (Below B0 w (wr.alloc (sOne (.slice a X c)))) := HBW.out.alloc hBw.out _
        have hus2 : Hid ((us ++ [Value.slice a X c]).length = i + 1) := by show _ = _; rw [List.length_append, HUS.out]; rfl
        have hms : Hid (k - (i + 1) < k - i) := by show _ < _; omega
        clear hl hL hX hq hle hXc
        go_wp2_with (first
          | (go_at_call 17; with_reducible refine (HSh.out _).mono ?_; rintro e w3 ⟨rfl, rfl⟩)
          | (at_builtin; (refine wpList_append_rows rfl (.tmp 18) (.tmp 24) rfl B0 _ us (.slice a X c) rfl HRow.out H1c.out wr.heap.size rfl rfl hol.out hBw.out ?_; intro v12 w12 r12 g12 e12; have HYn := Lib.hid (HPR.out.snoc HBB.out hBw.out a (l.take 9) X c HX.out hrb.out HXc.out HCM.out g12 r12); have HBn : Hid (Below B0 w w12) := hal.out.grown g12 (by have := hBw.out; rw [World.size_alloc]; omega) (fun j e => (HPR.out.lt e).1); clear r12 g12 e12)))
        rw [← HTk.out] at HYn
        go_roundw
        case rel => exact ⟨i + 1, _, by go_num, by omega, by omega, HYn, hus2, HBn⟩
        case measure => simp [intOf]; have := hms.out; omega
      · have hkz : ¬ (i : Int) < (k : Int) := by omega
        have hik2 : i = k := by omega
        have hall : Hid ((cutP k ps).take i = cutP k ps) := by show _ = _; rw [List.take_of_length_le (by rw [HN.out, HNN.out]; omega)]
        rw [hall.out] at HPR
        obtain ⟨A', c', rfl, q1, q2, q3⟩ := HPR.out.reads2 N HN.out
        have Q1 := Lib.hid q1; have Q2 := Lib.hid q2; have Q3 := Lib.hid q3
        clear q1 q2 q3 hik2
        go_wp2_with fail
        go_ret
        exact ⟨A', c', rfl, by rw [HB0.out]; exact Q3.out, Q1.out, Q2.out, by rw [HB0.out]; exact HBW.out⟩
    · have hiz : ¬ (i : Int) < (M : Int) := by omega
      have hall : Hid ((cutP k ps).take i = cutP k ps) := by show _ = _; rw [List.take_of_length_le (by rw [HN.out, HNN.out]; omega)]
      rw [hall.out] at HPR
      obtain ⟨A', c', rfl, q1, q2, q3⟩ := HPR.out.reads2 N HN.out
      have Q1 := Lib.hid q1; have Q2 := Lib.hid q2; have Q3 := Lib.hid q3
      clear q1 q2 q3
      go_wp2_with fail
      go_ret
      exact ⟨A', c', rfl, by rw [HB0.out]; exact Q3.out, Q1.out, Q2.out, by rw [HB0.out]; exact HBW.out⟩
end Go.Proofs.Ytbmhdinaofepdaa
