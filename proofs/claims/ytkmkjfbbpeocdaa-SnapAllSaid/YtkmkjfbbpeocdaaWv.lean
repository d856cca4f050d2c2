/- WALK: SnapApart. -/
import Derived.Test.YtkmkjfbbpeocdaaWu
import Derived.Test.YtkmkjfbbpeocdaaGi
import Derived.Test.YtkmkjfbbpeocdaaWr
namespace Go.Proofs.Ytkmkjfbbpeocdaa
set_option maxRecDepth 100000
open Go.RowKit Go.Maps
set_option linter.unusedVariables false
set_option linter.unusedSimpArgs false

theorem infoGame11 : (Try.prog.info? 44).map (·.size) = some 32 := by kernel_rfl
theorem guardGame11 : Try.prog.eqGuardType Try.prog.depth 44 = false := by kernel_rfl
theorem zeroGame11 (w : World) : (zeroValue 44).run Try.prog w = .ok (.agg (gC (zG 32))) w :=
  (zero_of_info (P := Try.prog) (t := 44) (v := .agg (gC (zG 32))) (n := 32) (by kernel_rfl)).1 w
theorem m0 {α : Type} (a : α) (l : List α) : a ∈ a :: l := .head _
theorem m1 {α : Type} (a b : α) (l : List α) : a ∈ b :: a :: l := .tail _ (.head _)
theorem m2 {α : Type} (a b c : α) (l : List α) : a ∈ b :: c :: a :: l := .tail _ (m1 _ _ _)
theorem m3 {α : Type} (a b c d : α) (l : List α) : a ∈ b :: c :: d :: a :: l := .tail _ (m2 _ _ _ _)
theorem m4 {α : Type} (a b c d e : α) (l : List α) : a ∈ b :: c :: d :: e :: a :: l := .tail _ (m3 _ _ _ _ _)
theorem wpList_load_gd {P : Program} {ops : Array Oper} {rest : List Oper} {op : Oper} {a : Act} {w : World} {Q : Exit → Act → World → Prop} (hw : Region.wanted op (yielded ops a.tmps) = true) (ty : TypeId) (x : Operand) (ho : op.op = .load ty x)
    (b : Nat) (hx : a.eval x = .pointer (some ⟨b, 0, none⟩)) (t : TypeId) (g : List Int) (h : GA w b t g) {n : Nat} {e : TypeId} (hu : P.underlying ty = some (.array n e)) (hi : (P.info? ty).map (·.size) = some g.length)
    (hk : wpList P ops Q rest (a.put op.dst (.agg (gC g))) w) : wpList P ops Q (op :: rest) a w :=
  wpList_step fun K hK => by rw [if_pos hw]; exact wp_load_g ty x ho b hx t g h hu hi (hK _ _ hk)
def gaO (t : TypeId) (g : List Int) : Obj := .cells (gC g) t (0, 0)
section
variable {w0 w w3 : World} {S P A M : Nat} {Q : List Sh → List Pc → Prop} {O : List (Nat × Obj)}
theorem Frm.ga (h : Frm w0 w S P A M Q O) {x : Nat} {t : TypeId} {g : List Int} (hx : (x, gaO t g) ∈ O) : GA w x t g := h.own hx
/-- a new variable that holds a game -/
theorem Frm.made (h : Frm w0 w S P A M Q O) {o : Obj} {t : TypeId} {g : List Int} (G : GA w3 w.heap.size t g) (R : (w.alloc o).grownBy w3 (some w.heap.size)) : Hid (Frm w0 w3 S P A M Q ((w.heap.size, gaO t g) :: O)) :=
  h.new (((Below.refl _ _).alloc (Nat.le_refl _) o).grown R (by simp) (fun k e => by have := Option.some.inj e; omega)) w.heap.size _ (Nat.le_refl _) G
theorem Frm.cellset {x : Nat} {t : TypeId} {g : List Int} (h : Frm w0 w S P A M Q ((x, gaO t g) :: O)) (n : Nat) (v : Int) : Hid (Frm w0 (w.setCell ⟨x, n, none⟩ (.int .i32 v)) S P A M Q ((x, gaO t (g.set n v)) :: O)) :=
  h.put (grown_st w ⟨x, n, none⟩ (.int .i32 v)) _ ((h.ga (m0 _ _)).set n v)
end
set_option maxHeartbeats 8000000 in
theorem apart_law (A0 : Option Addr) (l : List Int) (cap : Nat) (A1 : Option Addr) (cs : List Int) (capc : Nat) (v : Int) (w : World)
    (hr : RG w w.heap.size A0 l) (hc : l.length ≤ cap) (hm : cap ≤ maxLen) (hrc : RI w w.heap.size A1 cs) (hcc : cs.length ≤ capc) (hmc : capc ≤ maxLen) (hcz : ∀ z ∈ cs, -9223372036854775808 ≤ z ∧ z ≤ 9223372036854775807) :
    Calls Try.prog 4 #[.slice A0 l.length cap, .slice A1 cs.length capc, .int .i32 v] w fun e w' => e = .returned (.bool true) ∧ Below w.heap.size w w' := by
  have hz := zeroState
  have hzg := zeroGame11
  have hgd := guardGame11
  have HBg := Lib.hid (begun11_any w)
  have HNew := Lib.hid (fun W => f_new 3 (by omega) 3 rfl W 12 rfl)
  have HR := Lib.hid hr
  have HRC := Lib.hid hrc
  have HCZ := Lib.hid hcz
  obtain ⟨st, hst⟩ : ∃ st, st = ofL l := ⟨_, rfl⟩
  have HOf := Lib.hid (fun (W : World) (hb : Below w.heap.size w W) => hst ▸ of_any A0 l cap W ((hr.below hb).more hb.size) hc hm)
  have hs32 : st.length = 32 := by rw [hst]; exact ofL_length l
  have HS32 := Lib.hid hs32
  have z32 := Lib.hid (zG_length 32)
  clear hr hc hm hrc hcz hst hs32
  go_enter Try.func4, Try.ntmps4
  go_wp2_with (first
    | (go_at_call 11; with_reducible refine HBg.out.mono ?_; rintro e wa ⟨rfl, hb⟩; have HB0 := Lib.hid hb; clear hb)
    | (go_at_call 12; with_reducible refine (HNew.out _).mono ?_; rintro e w1 ⟨S, P, A, M, rfl, E⟩; have HE := Lib.hid E; clear E; have HB1 := Lib.hid (HB0.out.trans (HE.out.be.mono HB0.out.size)))
    | (go_at_call 15; with_reducible refine (HOf.out _ HB1.out).mono ?_; rintro e w2 ⟨rfl, hb⟩; replace HE := Lib.hid (HE.out.belows hb); clear hb)
    | (with_reducible refine wpList_store_g rfl 38 (.tmp 9) (.tmp 27) rfl _ (by with_unfolding_all rfl) 38 (zG 32) st (GA.new _ _ _) (by with_unfolding_all rfl) (by rw [HS32.out, z32.out]) (by rw [HS32.out]; exact infoState) ?_; intro w3 G3 S3 R3; have HF := HE.out.made G3 R3; clear G3 S3 R3)
    | (with_reducible refine wpList_load_g rfl 38 (.tmp 9) rfl w2.heap.size (by with_unfolding_all rfl) 38 st (HF.out.ga (m0 _ _)) Try.underlying38 (by rw [HS32.out]; exact infoState) ?_)
    | (go_at_call 16; with_reducible refine (f_make HF.out st HS32.out 1 (q_make (by omega) st HS32.out)).mono ?_; rintro e w4 ⟨rfl, E⟩; replace HF := Lib.hid E; clear E)
    | (go_at_call 17; with_reducible refine (f_fork HF.out 1 2 q_fork).mono ?_; rintro e w5 ⟨rfl, E⟩; replace HF := Lib.hid E; clear E)
    | (with_reducible refine wpList_store_g rfl 44 (.tmp 14) (.tmp 42) rfl _ (by with_unfolding_all rfl) 44 (zG 32) st (GA.new _ _ _) (by with_unfolding_all rfl) (by rw [HS32.out, z32.out]) (by rw [HS32.out]; exact infoGame11) ?_; intro w6 G6 S6 R6; have HG := HF.out.made G6 R6; clear G6 S6 R6 HE))
  have HBw := Lib.hid HB0.out
  obtain ⟨a, ha⟩ : ∃ a, a = w2.heap.size := ⟨_, rfl⟩
  obtain ⟨b, hb⟩ : ∃ b, b = w5.heap.size := ⟨_, rfl⟩
  rw [← ha] at HG ⊢
  rw [← hb] at HG ⊢
  clear ha hb HF HB1
  go_loopw [15] (fun i wr => ∃ (k : Nat) (cur : List Int), i = .int .i64 k ∧ k ≤ cs.length ∧ k ≤ 20 ∧ Hid (cur.length = 32) ∧ Hid (Frm wa wr S P A M (Q2 12 st cur) [(b, gaO 44 cur), (a, gaO 38 st)])) (fun i _ => 20 - (numI i).toNat)
  case atStart => exact ⟨0, st, rfl, by omega, by omega, HS32.out, HG.out⟩
  case round =>
    obtain ⟨k, cur, rfl, hk, hk20, HC32, HF⟩ := hrel
    have HBr := Lib.hid (HBw.out.trans (HF.out.be.mono HBw.out.size))
    by_cases hlt : k < 20 ∧ k < cs.length
    · obtain ⟨h20, hlt⟩ := hlt
      have hkc : (k : Int) < (cs.length : Int) := by omega
      have hk20c : (k : Int) < 20 := by omega
      obtain ⟨bb, off, rfl, hbB, hcell⟩ := (HRC.out.below HBr.out) (by omega)
      have q1 := hcell k hlt
      have hzb := HCZ.out cs[k] (List.getElem_mem hlt)
      clear hcell
      generalize cs[k] = z at q1 hzb
      obtain ⟨n, hn, hm, hm1, hm2⟩ := mod32 z hzb.1 hzb.2
      have hnc : (n : Int) < 32 := by omega
      have HSet := Lib.hid (f_set HF.out 2 (n : Int) v n rfl hn (q_set2 (by omega) n hn v))
      have HN := Lib.hid hn
      clear hzb
      go_wp2_with (go_at_call 18; with_reducible refine HSet.out.mono ?_; rintro e w4 ⟨rfl, E⟩; have HF4 := Lib.hid E; clear E; have gc := (HF4.out.ga (m0 _ _)).cell n (by rw [HC32.out]; exact HN.out); have gf := (HF4.out.ga (m0 _ _)).frozen n; have HF5 := HF4.out.cellset n v)
      go_roundw
      case rel => exact ⟨k + 1, cur.set n v, by go_num, by omega, by omega, by rw [Hid, List.length_set]; exact HC32.out, HF5⟩
      case measure => simp [numI]; omega
    · have HQ : Hid (∀ (g : List Int), g.length = 32 → ∀ W, (binOp .eql 44 (.agg (gC g)) (.agg (gC g))).run Try.prog W = .ok (.bool true) W) := fun g hg W => by
        rw [eql_g 44 Try.underlying44 Try.underlying21 infoCell g g hg hg W]; simp
      have e1 := HQ.out st HS32.out
      have e2 := HQ.out cur HC32.out
      have hr1 : rng 1 := ⟨by omega, by omega⟩
      have hr2 : rng 2 := ⟨by omega, by omega⟩
      by_cases h20 : k < 20
      · have h20c : (k : Int) < 20 := by omega
        have hlc : ¬ (k : Int) < (cs.length : Int) := by omega
        clear hlt hk hk20
        go_wp2_with (first
          | (go_at_call 19; with_reducible refine (f_state HF.out 1 st hr1 q_st2a).mono ?_; rintro e u1 ⟨rfl, E⟩; have HX1 := Lib.hid E; clear E HF)
          | (with_reducible refine wpList_store_g rfl 38 (.tmp 17) (.tmp 73) rfl _ (by with_unfolding_all rfl) 38 (zG 32) st (GA.new _ _ _) (by with_unfolding_all rfl) (by rw [HS32.out, z32.out]) (by rw [HS32.out]; exact infoState) ?_; intro u2 G6 S6 R6; have HX2 := HX1.out.made G6 R6; clear G6 S6 R6)
          | (go_at_call 19; with_reducible refine (f_state HX2.out 2 cur hr2 q_st2b).mono ?_; rintro e u3 ⟨rfl, E⟩; have HX3 := Lib.hid E; clear E HX2)
          | (with_reducible refine wpList_store_g rfl 38 (.tmp 19) (.tmp 79) rfl _ (by with_unfolding_all rfl) 38 (zG 32) cur (GA.new _ _ _) (by with_unfolding_all rfl) (by rw [HC32.out, z32.out]) (by rw [HC32.out]; exact infoState) ?_; intro u4 G6 S6 R6; have HX4 := HX3.out.made G6 R6; clear G6 S6 R6)
          | (go_at_call 20; with_reducible refine (f_drop HX4.out 1 q_drop2).mono ?_; rintro e u5 ⟨rfl, E⟩; have HX5 := Lib.hid E; clear E HX4)
          | (go_at_call 19; with_reducible refine (f_state HX5.out 2 cur hr2 q_stL).mono ?_; rintro e u6 ⟨rfl, E⟩; have HX6 := Lib.hid E; clear E HX5)
          | (with_reducible refine wpList_store_g rfl 38 (.tmp 21) (.tmp 88) rfl _ (by with_unfolding_all rfl) 38 (zG 32) cur (GA.new _ _ _) (by with_unfolding_all rfl) (by rw [HC32.out, z32.out]) (by rw [HC32.out]; exact infoState) ?_; intro u7 G6 S6 R6; have HX7 := HX6.out.made G6 R6; clear G6 S6 R6)
          | (with_reducible refine wpList_load_g rfl 38 (.tmp 17) rfl u1.heap.size (by with_unfolding_all rfl) 38 st (HX7.out.ga (m2 _ _ _ _)) Try.underlying38 (by rw [HS32.out]; exact infoState) ?_)
          | (with_reducible refine wpList_load_g rfl 38 (.tmp 9) rfl a (by with_unfolding_all rfl) 38 st (HX7.out.ga (m4 _ _ _ _ _ _)) Try.underlying38 (by rw [HS32.out]; exact infoState) ?_)
          | (with_reducible refine wpList_load_gd (by with_unfolding_all rfl) 38 (.tmp 19) rfl u3.heap.size (by with_unfolding_all rfl) 38 cur (HX7.out.ga (m1 _ _ _)) Try.underlying38 (by rw [HC32.out]; exact infoState) ?_)
          | (with_reducible refine wpList_load_gd (by with_unfolding_all rfl) 44 (.tmp 14) rfl b (by with_unfolding_all rfl) 44 cur (HX7.out.ga (m3 _ _ _ _ _)) Try.underlying44 (by rw [HC32.out]; exact infoGame11) ?_)
          | (with_reducible refine wpList_load_gd (by with_unfolding_all rfl) 38 (.tmp 21) rfl u6.heap.size (by with_unfolding_all rfl) 38 cur (HX7.out.ga (m0 _ _)) Try.underlying38 (by rw [HC32.out]; exact infoState) ?_)
          | (go_at_call 21; with_reducible refine (f_room HX7.out).mono ?_; rintro e u8 ⟨rfl, E⟩; have HX8 := Lib.hid E; clear E)
          | (go_at_call 22; with_reducible refine (f_used HX8.out 4 q_usedL 4 rfl).mono ?_; rintro e u9 ⟨rfl, E⟩; have HX9 := Lib.hid E; clear E)
          | (go_at_call 20; with_reducible refine (f_dropno HX9.out 1 hr1 q_deadL).mono ?_; rintro e u10 ⟨rfl, E⟩; have HX10 := Lib.hid E; clear E))
        go_ret
        exact ⟨rfl, HBw.out.trans (HX10.out.be.mono HBw.out.size)⟩
      · have h20c : ¬ (k : Int) < 20 := by omega
        obtain rfl : k = 20 := by omega
        clear hlt hk hk20
        by_cases hlc : ((20 : Nat) : Int) < (cs.length : Int)
        · go_wp2_with (first
            | (go_at_call 19; with_reducible refine (f_state HF.out 1 st hr1 q_st2a).mono ?_; rintro e u1 ⟨rfl, E⟩; have HX1 := Lib.hid E; clear E HF)
            | (with_reducible refine wpList_store_g rfl 38 (.tmp 17) (.tmp 73) rfl _ (by with_unfolding_all rfl) 38 (zG 32) st (GA.new _ _ _) (by with_unfolding_all rfl) (by rw [HS32.out, z32.out]) (by rw [HS32.out]; exact infoState) ?_; intro u2 G6 S6 R6; have HX2 := HX1.out.made G6 R6; clear G6 S6 R6)
            | (go_at_call 19; with_reducible refine (f_state HX2.out 2 cur hr2 q_st2b).mono ?_; rintro e u3 ⟨rfl, E⟩; have HX3 := Lib.hid E; clear E HX2)
            | (with_reducible refine wpList_store_g rfl 38 (.tmp 19) (.tmp 79) rfl _ (by with_unfolding_all rfl) 38 (zG 32) cur (GA.new _ _ _) (by with_unfolding_all rfl) (by rw [HC32.out, z32.out]) (by rw [HC32.out]; exact infoState) ?_; intro u4 G6 S6 R6; have HX4 := HX3.out.made G6 R6; clear G6 S6 R6)
            | (go_at_call 20; with_reducible refine (f_drop HX4.out 1 q_drop2).mono ?_; rintro e u5 ⟨rfl, E⟩; have HX5 := Lib.hid E; clear E HX4)
            | (go_at_call 19; with_reducible refine (f_state HX5.out 2 cur hr2 q_stL).mono ?_; rintro e u6 ⟨rfl, E⟩; have HX6 := Lib.hid E; clear E HX5)
            | (with_reducible refine wpList_store_g rfl 38 (.tmp 21) (.tmp 88) rfl _ (by with_unfolding_all rfl) 38 (zG 32) cur (GA.new _ _ _) (by with_unfolding_all rfl) (by rw [HC32.out, z32.out]) (by rw [HC32.out]; exact infoState) ?_; intro u7 G6 S6 R6; have HX7 := HX6.out.made G6 R6; clear G6 S6 R6)
            | (with_reducible refine wpList_load_g rfl 38 (.tmp 17) rfl u1.heap.size (by with_unfolding_all rfl) 38 st (HX7.out.ga (m2 _ _ _ _)) Try.underlying38 (by rw [HS32.out]; exact infoState) ?_)
            | (with_reducible refine wpList_load_g rfl 38 (.tmp 9) rfl a (by with_unfolding_all rfl) 38 st (HX7.out.ga (m4 _ _ _ _ _ _)) Try.underlying38 (by rw [HS32.out]; exact infoState) ?_)
            | (with_reducible refine wpList_load_gd (by with_unfolding_all rfl) 38 (.tmp 19) rfl u3.heap.size (by with_unfolding_all rfl) 38 cur (HX7.out.ga (m1 _ _ _)) Try.underlying38 (by rw [HC32.out]; exact infoState) ?_)
            | (with_reducible refine wpList_load_gd (by with_unfolding_all rfl) 44 (.tmp 14) rfl b (by with_unfolding_all rfl) 44 cur (HX7.out.ga (m3 _ _ _ _ _)) Try.underlying44 (by rw [HC32.out]; exact infoGame11) ?_)
            | (with_reducible refine wpList_load_gd (by with_unfolding_all rfl) 38 (.tmp 21) rfl u6.heap.size (by with_unfolding_all rfl) 38 cur (HX7.out.ga (m0 _ _)) Try.underlying38 (by rw [HC32.out]; exact infoState) ?_)
            | (go_at_call 21; with_reducible refine (f_room HX7.out).mono ?_; rintro e u8 ⟨rfl, E⟩; have HX8 := Lib.hid E; clear E)
            | (go_at_call 22; with_reducible refine (f_used HX8.out 4 q_usedL 4 rfl).mono ?_; rintro e u9 ⟨rfl, E⟩; have HX9 := Lib.hid E; clear E)
            | (go_at_call 20; with_reducible refine (f_dropno HX9.out 1 hr1 q_deadL).mono ?_; rintro e u10 ⟨rfl, E⟩; have HX10 := Lib.hid E; clear E))
          go_ret
          exact ⟨rfl, HBw.out.trans (HX10.out.be.mono HBw.out.size)⟩
        · go_wp2_with (first
            | (go_at_call 19; with_reducible refine (f_state HF.out 1 st hr1 q_st2a).mono ?_; rintro e u1 ⟨rfl, E⟩; have HX1 := Lib.hid E; clear E HF)
            | (with_reducible refine wpList_store_g rfl 38 (.tmp 17) (.tmp 73) rfl _ (by with_unfolding_all rfl) 38 (zG 32) st (GA.new _ _ _) (by with_unfolding_all rfl) (by rw [HS32.out, z32.out]) (by rw [HS32.out]; exact infoState) ?_; intro u2 G6 S6 R6; have HX2 := HX1.out.made G6 R6; clear G6 S6 R6)
            | (go_at_call 19; with_reducible refine (f_state HX2.out 2 cur hr2 q_st2b).mono ?_; rintro e u3 ⟨rfl, E⟩; have HX3 := Lib.hid E; clear E HX2)
            | (with_reducible refine wpList_store_g rfl 38 (.tmp 19) (.tmp 79) rfl _ (by with_unfolding_all rfl) 38 (zG 32) cur (GA.new _ _ _) (by with_unfolding_all rfl) (by rw [HC32.out, z32.out]) (by rw [HC32.out]; exact infoState) ?_; intro u4 G6 S6 R6; have HX4 := HX3.out.made G6 R6; clear G6 S6 R6)
            | (go_at_call 20; with_reducible refine (f_drop HX4.out 1 q_drop2).mono ?_; rintro e u5 ⟨rfl, E⟩; have HX5 := Lib.hid E; clear E HX4)
            | (go_at_call 19; with_reducible refine (f_state HX5.out 2 cur hr2 q_stL).mono ?_; rintro e u6 ⟨rfl, E⟩; have HX6 := Lib.hid E; clear E HX5)
            | (with_reducible refine wpList_store_g rfl 38 (.tmp 21) (.tmp 88) rfl _ (by with_unfolding_all rfl) 38 (zG 32) cur (GA.new _ _ _) (by with_unfolding_all rfl) (by rw [HC32.out, z32.out]) (by rw [HC32.out]; exact infoState) ?_; intro u7 G6 S6 R6; have HX7 := HX6.out.made G6 R6; clear G6 S6 R6)
            | (with_reducible refine wpList_load_g rfl 38 (.tmp 17) rfl u1.heap.size (by with_unfolding_all rfl) 38 st (HX7.out.ga (m2 _ _ _ _)) Try.underlying38 (by rw [HS32.out]; exact infoState) ?_)
            | (with_reducible refine wpList_load_g rfl 38 (.tmp 9) rfl a (by with_unfolding_all rfl) 38 st (HX7.out.ga (m4 _ _ _ _ _ _)) Try.underlying38 (by rw [HS32.out]; exact infoState) ?_)
            | (with_reducible refine wpList_load_gd (by with_unfolding_all rfl) 38 (.tmp 19) rfl u3.heap.size (by with_unfolding_all rfl) 38 cur (HX7.out.ga (m1 _ _ _)) Try.underlying38 (by rw [HC32.out]; exact infoState) ?_)
            | (with_reducible refine wpList_load_gd (by with_unfolding_all rfl) 44 (.tmp 14) rfl b (by with_unfolding_all rfl) 44 cur (HX7.out.ga (m3 _ _ _ _ _)) Try.underlying44 (by rw [HC32.out]; exact infoGame11) ?_)
            | (with_reducible refine wpList_load_gd (by with_unfolding_all rfl) 38 (.tmp 21) rfl u6.heap.size (by with_unfolding_all rfl) 38 cur (HX7.out.ga (m0 _ _)) Try.underlying38 (by rw [HC32.out]; exact infoState) ?_)
            | (go_at_call 21; with_reducible refine (f_room HX7.out).mono ?_; rintro e u8 ⟨rfl, E⟩; have HX8 := Lib.hid E; clear E)
            | (go_at_call 22; with_reducible refine (f_used HX8.out 4 q_usedL 4 rfl).mono ?_; rintro e u9 ⟨rfl, E⟩; have HX9 := Lib.hid E; clear E)
            | (go_at_call 20; with_reducible refine (f_dropno HX9.out 1 hr1 q_deadL).mono ?_; rintro e u10 ⟨rfl, E⟩; have HX10 := Lib.hid E; clear E))
          go_ret
          exact ⟨rfl, HBw.out.trans (HX10.out.be.mono HBw.out.size)⟩
end Go.Proofs.Ytkmkjfbbpeocdaa
