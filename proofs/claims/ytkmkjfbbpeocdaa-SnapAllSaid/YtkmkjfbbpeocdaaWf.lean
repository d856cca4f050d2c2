/- WALKS over package snap: Make. -/
import Derived.Test.YtkmkjfbbpeocdaaWe
namespace Go.Proofs.Ytkmkjfbbpeocdaa
set_option maxRecDepth 100000
open Go.RowKit Go.Maps
set_option linter.unusedVariables false
set_option linter.unusedSimpArgs false

theorem make_nil (g : List Int) (w : World) :
    Calls Try.prog 16 #[.pointer none, .agg (gC g)] w fun e w' => e = .returned (.tuple #[.int .i64 0, .bool false]) ∧ Below w.heap.size w w' := by
  have b0 : Below w.heap.size w (w.alloc (.cells (gC g) 38)) := (Below.refl _ _).alloc (Nat.le_refl _) _
  have HU := Lib.hid (has_nil 4 (w.alloc (.cells (gC g) 38)))
  generalize gC g = C at *
  go_enter Try.func16, Try.ntmps16
  go_wp2_with (go_at_call 28; with_reducible refine HU.out.mono ?_; rintro e w1 ⟨rfl, hb⟩)
  go_ret2
  exact ⟨rfl, b0.trans (hb.mono b0.size)⟩
theorem make_miss (w : World) (S P A M : Nat) (l : List Sh) (L : List Pc) (h : SM w S P A M l L) (hu : l.length < usedN l + 4) (g : List Int) :
    Calls Try.prog 16 #[.pointer (some ⟨S, 0, none⟩), .agg (gC g)] w fun e w' => e = .returned (.tuple #[.int .i64 0, .bool false]) ∧ Below w.heap.size w w' := by
  have b0 : Below w.heap.size w (w.alloc (.cells (gC g) 38)) := (Below.refl _ _).alloc (Nat.le_refl _) _
  have HU := Lib.hid (has_any _ S P A M l L (h.alloc (.cells (gC g) 38)) 4 (by omega) false (by simp; omega))
  generalize gC g = C at *
  clear h hu
  go_enter Try.func16, Try.ntmps16
  go_wp2_with (go_at_call 28; with_reducible refine HU.out.mono ?_; rintro e w1 ⟨rfl, hb⟩)
  go_ret2
  exact ⟨rfl, b0.trans (hb.mono b0.size)⟩
theorem pageG_at (g : List Int) (j : Nat) (hj : j < 4) (m : Nat) (hm : m < 8) : (pageG g (j : Int))[m]? = g[8 * j + m]? := by
  unfold pageG
  rw [if_pos (by unfold pgB; simp; omega)]
  rw [List.getElem?_take_of_lt hm, List.getElem?_drop]
  rfl
theorem MadeN.nn {l l' : List Sh} {g : List Int} {f : Nat → Int} {i : Nat} (h : MadeN l l' g f i) (hn : ∀ p, 0 ≤ (pg l p).r) (p : Int) : 0 ≤ (pg l' p).r := by
  by_cases e : ∃ j, j < i ∧ f j = p
  · obtain ⟨j, hj, rfl⟩ := e
    rw [h.one j hj]; omega
  · rw [h.oth p (fun j hj x => e ⟨j, hj, x⟩)]; exact hn p
/-- what Make's loop holds -/
structure MkL (w wr : World) (P A q : Nat) (g : List Int) (f : Nat → Int) (l' : List Sh) : Prop where
  upd : Upd w wr P A l'
  arr : Q4 wr q 67 f
  st : GA wr w.heap.size 38 g
theorem MkL.below {w wr w3 : World} {P A q : Nat} {g : List Int} {f : Nat → Int} {l' : List Sh} (h : MkL w wr P A q g f l') (hb : Below wr.heap.size wr w3) : MkL w w3 P A q g f l' :=
  ⟨⟨h.upd.rm.belows hb, grown_tr h.upd.gr (grown_be hb)⟩, h.arr.block (hb.block q h.arr.lt), h.st.below hb h.st.lt⟩
theorem MkL.upds {w wr w3 : World} {P A q : Nat} {g : List Int} {f : Nat → Int} {l' l2 : List Sh} (h : MkL w wr P A q g f l') (hA : A < w.heap.size) (hq : w.heap.size < q) (U : Upd wr w3 P A l2) : MkL w w3 P A q g f l2 :=
  ⟨⟨U.rm, grown_tr h.upd.gr U.gr⟩, h.arr.block (U.gr.block q h.arr.lt (fun e => by have := Option.some.inj e; omega)), h.st.grown U.gr (fun e => by have := Option.some.inj e; omega)⟩
theorem MkL.put {w wr : World} {P A q : Nat} {g : List Int} {f : Nat → Int} {l' : List Sh} (h : MkL w wr P A q g f l') (hP : P < w.heap.size) (hA : A < w.heap.size) (hq : w.heap.size < q) (i : Nat) (hi : i < 4) (x : Int) : Hid (MkL w (wr.setCell ⟨q, i, none⟩ (.int .i64 x)) P A q g (shPut f i x) l') := by
  have g1 := grown_st wr ⟨q, i, none⟩ (.int .i64 x)
  refine ⟨⟨h.upd.rm.grown g1 (fun e => by have := Option.some.inj e; simp at this; omega) (fun e => by have := Option.some.inj e; simp at this; omega), ?_⟩, h.arr.set i hi x, h.st.grown g1 (fun e => by have := Option.some.inj e; simp at this; omega)⟩
  refine ⟨g1.os.trans h.upd.gr.os, g1.tape.trans h.upd.gr.tape, g1.output.trans h.upd.gr.output, Nat.le_trans h.upd.gr.size g1.size, fun k hk hn => (g1.block k (Nat.lt_of_lt_of_le hk h.upd.gr.size) (fun e => by have := Option.some.inj e; simp at this; omega)).trans (h.upd.gr.block k hk hn)⟩
theorem MkL.start {w w2 : World} {S P A M : Nat} {l : List Sh} {L : List Pc} (h : SM w S P A M l L) (g : List Int) (hb : Below (w.heap.size + 1) (w.alloc (.cells (gC g) 38)) w2) :
    MkL w (w2.alloc (.cells (q4A zN) 67)) P A w2.heap.size g zN l := by
  have b0 : Below w.heap.size w (w.alloc (.cells (gC g) 38)) := (Below.refl _ _).alloc (Nat.le_refl _) _
  have hs := hb.size
  rw [World.size_alloc] at hs
  have b2 : Below w.heap.size w (w2.alloc (.cells (q4A zN) 67)) := (b0.trans (hb.mono (by omega))).alloc (by omega) _
  refine ⟨⟨h.rm.below b2 h.rm.lt h.rm.row.lt, grown_be b2⟩, heap_alloc_last w2 _, ?_⟩
  exact ((GA.new w _ g).below hb (by omega)).alloc _
set_option maxHeartbeats 2000000 in
theorem make_hit (w : World) (S P A M : Nat) (l : List Sh) (L : List Pc) (h : SM w S P A M l L) (I : INV l L) (hu : usedN l + 4 ≤ l.length) (hL : L.length ≤ 1000) (g : List Int) (hg : g.length = 32) (x : Int) (hx : x = L.length + 1) :
    Calls Try.prog 16 #[.pointer (some ⟨S, 0, none⟩), .agg (gC g)] w fun e w' => e = .returned (.tuple #[.int .i64 x, .bool true]) ∧ ∃ l' f b, Upt w w' S P A M L l' (L ++ [⟨b, 1, f⟩]) ∧ MadeN l l' g f 4 := by
  have HHas := Lib.hid (has_any _ S P A M l L (h.alloc (.cells (gC g) 38)) 4 (by omega) true (by simp; omega))
  have HH := Lib.hid h
  have HI := Lib.hid I.nnr
  have HX := Lib.hid hx
  have HGl := Lib.hid hg
  have HU := Lib.hid hu
  have HL := Lib.hid hL
  have hP := h.rm.lt
  have hA := h.rm.row.lt
  have hz : (zeroValue 67).run Try.prog w = .ok (.agg (q4A zN)) w := Try.zeroValue67 w
  clear h I hu hx hg hL
  go_enter Try.func16, Try.ntmps16
  go_wp2_with (go_at_call 28; with_reducible refine HHas.out.mono ?_; rintro e w2 ⟨rfl, hb2⟩; rw [World.size_alloc] at hb2; have HM0 := Lib.hid (MkL.start HH.out g hb2); have hs2 := hb2.size; rw [World.size_alloc] at hs2; clear hb2)
  go_loopw [11] (fun i wr => ∃ (j : Nat) (f : Nat → Int) (l' : List Sh), i = .int .i64 j ∧ j ≤ 4 ∧ Hid (MadeN l l' g f j) ∧ Hid (MkL w wr P A w2.heap.size g f l')) (fun i _ => 4 - (intOf i).toNat)
  case atStart => exact ⟨0, zN, l, rfl, by omega, MadeN.start l g zN, HM0⟩
  case round =>
    obtain ⟨j, f, l', rfl, hj, hMade, hK⟩ := hrel
    have hMadeLen := hMade.out.len
    have HMd := Lib.hid hMadeLen
    clear hMadeLen
    by_cases hlt : j < 4
    · have hjc : (j : Int) < 4 := by omega
      obtain ⟨k, hk, hk0, hkb⟩ := free_one l' (pg_nn l' (hMade.out.nn HI.out)) (by have := hMade.out.used; have := HMd.out; have := HU.out; omega)
      have HPage := Lib.hid (page_any g j wr HGl.out)
      have HLay := Lib.hid (fun W (hb : Below wr.heap.size wr W) => lay_hit W S P A M l' L (HH.out.room (hK.out.below hb).upd HMd.out).sm (pageG g j) (pageG_length g j HGl.out) k hk hk0 hkb (k + 1) rfl)
      have HMadeS := Lib.hid (fun (s : Nat → Int) (hs : ∀ m, m < 8 → (pageG g (j : Int))[m]? = some (s m)) => hMade.out.step k hk hk0 s (fun m hm => (pageG_at g j hlt m hm).symm.trans (hs m hm)) (k + 1) rfl)
      clear hk hk0 hkb
      go_wp2_with (first
        | (with_reducible refine wpList_load_g rfl 38 (.tmp 3) rfl w.heap.size (by with_unfolding_all rfl) 38 g hK.out.st Try.underlying38 (by rw [HGl.out]; exact infoState) ?_)
        | (go_at_call 35; with_reducible refine HPage.out.mono ?_; rintro e w3 ⟨rfl, hb3⟩; have HK3 := Lib.hid (hK.out.below hb3); have HLay3 := Lib.hid (HLay.out w3 hb3); clear hb3)
        | (go_at_call 34; with_reducible refine HLay3.out.mono ?_; rintro e w4 ⟨rfl, s, hs, U⟩; have HK4 := Lib.hid (HK3.out.upds hA (by omega) U); have HMd4 := Lib.hid (HMadeS.out s hs); have hc4 := HK4.out.arr.cell j hlt; have hf4 := HK4.out.arr.fz j; have HK5 := HK4.out.put hP hA (by omega) j hlt (k + 1); clear U hs))
      go_roundw
      case rel => exact ⟨j + 1, _, _, by go_num, by omega, HMd4, HK5⟩
      case measure => simp [intOf]; omega
    · obtain rfl : j = 4 := by omega
      have HUpt := Lib.hid (HH.out.room hK.out.upd HMd.out)
      have HAdd := Lib.hid (add_any wr S P A M l' L HUpt.out.sm HL.out f x HX.out)
      go_wp2_with (first
        | (with_reducible refine wpList_load_q4 rfl 67 (.tmp 6) rfl w2.heap.size 0 (by with_unfolding_all rfl) f hK.out.arr.range Try.underlying67 infoQ4 ?_)
        | (go_at_call 36; with_reducible refine HAdd.out.mono ?_; rintro e w5 ⟨rfl, b, U5⟩))
      go_ret2
      exact ⟨rfl, l', f, b, HUpt.out.trans U5, hMade.out⟩
end Go.Proofs.Ytkmkjfbbpeocdaa
