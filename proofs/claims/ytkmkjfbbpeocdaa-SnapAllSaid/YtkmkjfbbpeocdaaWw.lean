/- WALK: SnapCells. -/
import Derived.Test.YtkmkjfbbpeocdaaWv
namespace Go.Proofs.Ytkmkjfbbpeocdaa
set_option maxRecDepth 100000
open Go.RowKit Go.Maps
set_option linter.unusedVariables false
set_option linter.unusedSimpArgs false

theorem q_get1 {N : Nat} {g : List Int} {n : Nat} {v : Int} (hv : g[n]? = some v) (l : List Sh) (L : List Pc) (h : Q1 N g l L) : ∃ (k : Nat) (c : Pc), (1 : Int) = k + 1 ∧ L[k]? = some c ∧ 0 < c.r ∧ (gmL l c.on)[n]? = some v := by
  obtain ⟨k, c, h1, h2, h3, h4⟩ := q_st1 l L h
  exact ⟨k, c, h1, h2, h3, by rw [h4]; exact hv⟩
theorem q_no1 {N : Nat} {g : List Int} {i : Int} (hi : ceB i = false) (l : List Sh) (L : List Pc) (h : Q1 N g l L) : Dead L 1 ∨ ∃ (k : Nat) (c : Pc), (1 : Int) = k + 1 ∧ L[k]? = some c ∧ 0 < c.r ∧ ceB i = false := by
  obtain ⟨k, c, h1, h2, h3, h4⟩ := q_st1 l L h
  exact .inr ⟨k, c, h1, h2, h3, hi⟩
theorem q_sno1 {N : Nat} {g : List Int} {i : Int} (hi : ceB i = false) (l : List Sh) (L : List Pc) (h : Q1 N g l L) : Dead L 1 ∨ ∃ (k : Nat) (c : Pc), (1 : Int) = k + 1 ∧ L[k]? = some c ∧ 0 < c.r ∧ (ceB i = false ∨ ∃ n : Nat, i = n ∧ n < 32 ∧ 1 < (pg l (c.on (n / 8))).r ∧ usedN l = l.length) := by
  obtain ⟨k, c, h1, h2, h3, h4⟩ := q_st1 l L h
  exact .inr ⟨k, c, h1, h2, h3, .inl hi⟩
theorem q_len1 {N : Nat} {g : List Int} (l : List Sh) (L : List Pc) (h : Q1 N g l L) : L.length ≤ 900 := by
  obtain ⟨b, f, rfl, _⟩ := h
  simp
theorem Frm.drew {w0 w : World} {S P A M : Nat} {Q : List Sh → List Pc → Prop} {O : List (Nat × Obj)} (h : Frm w0 w S P A M Q O) : Frm w0 w.drew S P A M Q O := h.belows (Below.refl _ w).drew
set_option maxHeartbeats 8000000 in
theorem cells_law (A0 : Option Addr) (l : List Int) (cap : Nat) (A1 : Option Addr) (cs : List Int) (capc : Nat) (A2 : Option Addr) (vs : List Int) (capv : Nat) (w : World)
    (hr : RG w w.heap.size A0 l) (hc : l.length ≤ cap) (hm : cap ≤ maxLen) (hrc : RI w w.heap.size A1 cs) (hcc : cs.length ≤ capc) (hmc : capc ≤ maxLen) (hcz : ∀ z ∈ cs, -9223372036854775808 ≤ z ∧ z ≤ 9223372036854775807)
    (hrv : RG w w.heap.size A2 vs) (hcv : vs.length ≤ capv) (hmv : capv ≤ maxLen) :
    Calls Try.prog 6 #[.slice A0 l.length cap, .slice A1 cs.length capc, .slice A2 vs.length capv] w fun e w' => e = .returned (.bool true) ∧ Below w.heap.size w w' := by
  have hz := zeroState
  have hzg := zeroGame11
  have hgd := guardGame11
  have HBg := Lib.hid (begun11_any w)
  have HNew := Lib.hid (fun W => f_new 2 (by omega) 2 rfl W 8 rfl)
  have HRC := Lib.hid hrc
  have HRV := Lib.hid hrv
  have HCZ := Lib.hid hcz
  obtain ⟨st, hst⟩ : ∃ st, st = ofL l := ⟨_, rfl⟩
  have HOf := Lib.hid (fun (W : World) (hb : Below w.heap.size w W) => hst ▸ of_any A0 l cap W ((hr.below hb).more hb.size) hc hm)
  have hs32 : st.length = 32 := by rw [hst]; exact ofL_length l
  have HS32 := Lib.hid hs32
  have z32 := Lib.hid (zG_length 32)
  clear hr hc hm hrc hcz hst hs32 hrv
  go_enter Try.func6, Try.ntmps6
  go_wp2_with (first
    | (go_at_call 11; with_reducible refine HBg.out.mono ?_; rintro e wa ⟨rfl, hb⟩; have HB0 := Lib.hid hb; clear hb)
    | (go_at_call 12; with_reducible refine (HNew.out _).mono ?_; rintro e w1 ⟨S, P, A, M, rfl, E⟩; have HE := Lib.hid E; clear E; have HB1 := Lib.hid (HB0.out.trans (HE.out.be.mono HB0.out.size)))
    | (go_at_call 15; with_reducible refine (HOf.out _ HB1.out).mono ?_; rintro e w2 ⟨rfl, hb⟩; replace HE := Lib.hid (HE.out.belows hb); clear hb)
    | (with_reducible refine wpList_store_g rfl 38 (.tmp 9) (.tmp 23) rfl _ (by with_unfolding_all rfl) 38 (zG 32) st (GA.new _ _ _) (by with_unfolding_all rfl) (by rw [HS32.out, z32.out]) (by rw [HS32.out]; exact infoState) ?_; intro w3 G3 S3 R3; have HF := HE.out.made G3 R3; clear G3 S3 R3)
    | (with_reducible refine wpList_load_g rfl 38 (.tmp 9) rfl w2.heap.size (by with_unfolding_all rfl) 38 st (HF.out.ga (m0 _ _)) Try.underlying38 (by rw [HS32.out]; exact infoState) ?_)
    | (go_at_call 16; with_reducible refine (f_make HF.out st HS32.out 1 (q_make (by omega) st HS32.out)).mono ?_; rintro e w4 ⟨rfl, E⟩; replace HF := Lib.hid E; clear E)
    | (with_reducible refine wpList_store_g rfl 44 (.tmp 12) (.tmp 32) rfl _ (by with_unfolding_all rfl) 44 (zG 32) st (GA.new _ _ _) (by with_unfolding_all rfl) (by rw [HS32.out, z32.out]) (by rw [HS32.out]; exact infoGame11) ?_; intro w6 G6 S6 R6; have HG := HF.out.made G6 R6; clear G6 S6 R6 HE))
  have HBw := Lib.hid HB0.out
  obtain ⟨a, ha⟩ : ∃ a, a = w2.heap.size := ⟨_, rfl⟩
  obtain ⟨b, hb⟩ : ∃ b, b = w4.heap.size := ⟨_, rfl⟩
  rw [← ha] at HG ⊢
  rw [← hb] at HG ⊢
  clear ha hb HF HB1
  go_loopw [13] (fun i wr => ∃ (k : Nat) (cur : List Int), i = .int .i64 k ∧ k ≤ cs.length ∧ k ≤ vs.length ∧ k ≤ 40 ∧ Hid (cur.length = 32) ∧ Hid (Frm wa wr S P A M (Q1 8 cur) [(b, gaO 44 cur), (a, gaO 38 st)])) (fun i _ => 40 - (numI i).toNat)
  case atStart => exact ⟨0, st, rfl, by omega, by omega, by omega, HS32.out, HG.out⟩
  case round =>
    obtain ⟨k, cur, rfl, hk, hkv, hk40, HC32, HF⟩ := hrel
    have HBr := Lib.hid (HBw.out.trans (HF.out.be.mono HBw.out.size))
    have hr1 : rng 1 := ⟨by omega, by omega⟩
    by_cases hlt : k < cs.length ∧ k < vs.length ∧ k < 40
    · obtain ⟨hlt, hltv, h40⟩ := hlt
      have hkc : (k : Int) < (cs.length : Int) := by omega
      have hkvc : (k : Int) < (vs.length : Int) := by omega
      have hk40c : (k : Int) < 40 := by omega
      obtain ⟨b1, o1, rfl, hb1, hcell1⟩ := HRC.out (by omega)
      obtain ⟨b2, o2, rfl, hb2, hcell2⟩ := HRV.out (by omega)
      have q1 := hcell1 k hlt
      have q2 := hcell2 k hltv
      have hzb := HCZ.out cs[k] (List.getElem_mem hlt)
      clear hcell1 hcell2
      generalize cs[k] = z at q1 hzb
      generalize vs[k] = v at q2
      have HP := Lib.hid (fun (W : World) (hb : Below w.heap.size w W) => And.intro ((hb.cell (p := ⟨b1, o1 + k, none⟩) hb1).trans q1) ((hb.cell (p := ⟨b2, o2 + k, none⟩) hb2).trans q2))
      obtain ⟨c1, c2⟩ := HP.out wr HBr.out
      obtain ⟨d1, d2⟩ := HP.out wr.drew HBr.out.drew
      clear q1 q2
      by_cases hin : 0 ≤ z ∧ z < 32
      · obtain ⟨hz0, hz1⟩ := hin
        obtain ⟨n, hnz⟩ : ∃ n : Nat, z = n := ⟨z.toNat, by omega⟩
        have hn : n < 32 := by omega
        have hzn : z.toNat = n := by omega
        have HSet := Lib.hid (f_set HF.out.drew 1 z v n hnz hn (q_set1 n hn v))
        have hcs : (cur.set n v)[n]? = some v := List.getElem?_set_self (by rw [HC32.out]; exact hn)
        have HGet := Lib.hid (fun W (E : Frm wa W S P A M (Q1 8 (cur.set n v)) [(b, gaO 44 (cur.set n v)), (a, gaO 38 st)]) => f_get E 1 z n hnz hn v hr1 (q_get1 hcs))
        have HN := Lib.hid hn
        clear hnz hcs
        go_wp2_with fail
        go_region_held3 (fun w' => w'.cell? ⟨b1, o1 + k, none⟩ = some (.int .i64 z) ∧ w'.cell? ⟨b2, o2 + k, none⟩ = some (.int .i32 v)) (first | exact ⟨by assumption, by assumption⟩ | go_keep)
          (first | (go_at_call 18; with_reducible refine HSet.out.mono ?_; rintro e w4 ⟨rfl, E⟩; have HF4 := Lib.hid E; obtain ⟨p1, p2⟩ := HP.out w4 (HBw.out.trans (E.be.mono HBw.out.size)); clear E))
        obtain ⟨old, gc⟩ : ∃ old, w4.cell? ⟨b, n, none⟩ = some (.int .i32 old) := ⟨_, (HF4.out.ga (m0 _ _)).cell n (by rw [HC32.out]; exact HN.out)⟩
        have gf := (HF4.out.ga (m0 _ _)).frozen n
        have HF5 := Lib.hid (HF4.out.cellset n v).out.drew
        obtain ⟨e1, e2⟩ := HP.out _ (HBw.out.trans (HF5.out.be.mono HBw.out.size))
        go_wp2_with fail
        go_region
        go_wp2_with (go_at_call 23; with_reducible refine (HGet.out _ HF5.out).mono ?_; rintro e w5 ⟨rfl, E⟩; have HF6 := Lib.hid E; obtain ⟨r1, r2⟩ := HP.out w5 (HBw.out.trans (E.be.mono HBw.out.size)); clear E)
        go_roundw
        case rel => exact ⟨k + 1, cur.set n v, by go_num, by omega, by omega, by omega, by rw [Hid, List.length_set]; exact HC32.out, HF6⟩
        case measure => simp [numI]; omega
      · have hce : ceB z = false := by unfold ceB; simp; omega
        have HSet := Lib.hid (f_setno HF.out.drew q_len1 1 z v hr1 (q_sno1 hce))
        have HGet := Lib.hid (fun W (E : Frm wa W S P A M (Q1 8 cur) [(b, gaO 44 cur), (a, gaO 38 st)]) => f_getno E 1 z hr1 (q_no1 hce))
        clear hce
        by_cases hz0 : 0 ≤ z
        · have hz1 : ¬ z < 32 := by omega
          clear hin
          go_wp2_with fail
          go_region_held3 (fun w' => w'.cell? ⟨b1, o1 + k, none⟩ = some (.int .i64 z) ∧ w'.cell? ⟨b2, o2 + k, none⟩ = some (.int .i32 v)) (first | exact ⟨by assumption, by assumption⟩ | go_keep)
            (first | (go_at_call 18; with_reducible refine HSet.out.mono ?_; rintro e w4 ⟨rfl, E⟩; have HF4 := Lib.hid E; obtain ⟨p1, p2⟩ := HP.out w4 (HBw.out.trans (E.be.mono HBw.out.size)); clear E))
          go_wp2_with (go_at_call 23; with_reducible refine (HGet.out _ HF4.out).mono ?_; rintro e w5 ⟨rfl, E⟩; have HF6 := Lib.hid E; obtain ⟨r1, r2⟩ := HP.out w5 (HBw.out.trans (E.be.mono HBw.out.size)); clear E)
          go_roundw
          case rel => exact ⟨k + 1, cur, by go_num, by omega, by omega, by omega, HC32.out, HF6⟩
          case measure => simp [numI]; omega
        · clear hin
          go_wp2_with fail
          go_region_held3 (fun w' => w'.cell? ⟨b1, o1 + k, none⟩ = some (.int .i64 z) ∧ w'.cell? ⟨b2, o2 + k, none⟩ = some (.int .i32 v)) (first | exact ⟨by assumption, by assumption⟩ | go_keep)
            (first | (go_at_call 18; with_reducible refine HSet.out.mono ?_; rintro e w4 ⟨rfl, E⟩; have HF4 := Lib.hid E; obtain ⟨p1, p2⟩ := HP.out w4 (HBw.out.trans (E.be.mono HBw.out.size)); clear E))
          go_wp2_with (go_at_call 23; with_reducible refine (HGet.out _ HF4.out).mono ?_; rintro e w5 ⟨rfl, E⟩; have HF6 := Lib.hid E; obtain ⟨r1, r2⟩ := HP.out w5 (HBw.out.trans (E.be.mono HBw.out.size)); clear E)
          go_roundw
          case rel => exact ⟨k + 1, cur, by go_num, by omega, by omega, by omega, HC32.out, HF6⟩
          case measure => simp [numI]; omega
    · have HQ : Hid (∀ (g : List Int), g.length = 32 → ∀ W, (binOp .eql 44 (.agg (gC g)) (.agg (gC g))).run Try.prog W = .ok (.bool true) W) := fun g hg W => by
        rw [eql_g 44 Try.underlying44 Try.underlying21 infoCell g g hg hg W]; simp
      have e2 := HQ.out cur HC32.out
      have HST := Lib.hid (fun W (E : Frm wa W S P A M (Q1 8 cur) [(b, gaO 44 cur), (a, gaO 38 st)]) => f_state E 1 cur hr1 q_st1)
      by_cases hk1 : (k : Int) < (cs.length : Int)
      · by_cases hk2 : (k : Int) < (vs.length : Int)
        · have hk3 : ¬ (k : Int) < 40 := by omega
          clear hlt
          go_wp2_with (first
            | (go_at_call 19; with_reducible refine (HST.out _ HF.out).mono ?_; rintro e u1 ⟨rfl, E⟩; have HX1 := Lib.hid E; clear E HF)
            | (with_reducible refine wpList_store_g rfl 38 (.tmp 17) (.tmp 120) rfl _ (by with_unfolding_all rfl) 38 (zG 32) cur (GA.new _ _ _) (by with_unfolding_all rfl) (by rw [HC32.out, z32.out]) (by rw [HC32.out]; exact infoState) ?_; intro u2 G6 S6 R6; have HX2 := HX1.out.made G6 R6; clear G6 S6 R6)
            | (with_reducible refine wpList_load_gd (by with_unfolding_all rfl) 38 (.tmp 17) rfl u1.heap.size (by with_unfolding_all rfl) 38 cur (HX2.out.ga (m0 _ _)) Try.underlying38 (by rw [HC32.out]; exact infoState) ?_)
            | (with_reducible refine wpList_load_gd (by with_unfolding_all rfl) 44 (.tmp 12) rfl b (by with_unfolding_all rfl) 44 cur (HX2.out.ga (m1 _ _ _)) Try.underlying44 (by rw [HC32.out]; exact infoGame11) ?_)
            | (go_at_call 21; with_reducible refine (f_room HX2.out).mono ?_; rintro e u8 ⟨rfl, E⟩; have HX8 := Lib.hid E; clear E)
            | (go_at_call 22; with_reducible refine (f_used HX8.out 4 q_used1 4 rfl).mono ?_; rintro e u9 ⟨rfl, E⟩; have HX9 := Lib.hid E; clear E))
          go_ret
          exact ⟨rfl, HBw.out.trans (HX9.out.be.mono HBw.out.size)⟩
        · clear hlt
          go_wp2_with (first
            | (go_at_call 19; with_reducible refine (HST.out _ HF.out).mono ?_; rintro e u1 ⟨rfl, E⟩; have HX1 := Lib.hid E; clear E HF)
            | (with_reducible refine wpList_store_g rfl 38 (.tmp 17) (.tmp 120) rfl _ (by with_unfolding_all rfl) 38 (zG 32) cur (GA.new _ _ _) (by with_unfolding_all rfl) (by rw [HC32.out, z32.out]) (by rw [HC32.out]; exact infoState) ?_; intro u2 G6 S6 R6; have HX2 := HX1.out.made G6 R6; clear G6 S6 R6)
            | (with_reducible refine wpList_load_gd (by with_unfolding_all rfl) 38 (.tmp 17) rfl u1.heap.size (by with_unfolding_all rfl) 38 cur (HX2.out.ga (m0 _ _)) Try.underlying38 (by rw [HC32.out]; exact infoState) ?_)
            | (with_reducible refine wpList_load_gd (by with_unfolding_all rfl) 44 (.tmp 12) rfl b (by with_unfolding_all rfl) 44 cur (HX2.out.ga (m1 _ _ _)) Try.underlying44 (by rw [HC32.out]; exact infoGame11) ?_)
            | (go_at_call 21; with_reducible refine (f_room HX2.out).mono ?_; rintro e u8 ⟨rfl, E⟩; have HX8 := Lib.hid E; clear E)
            | (go_at_call 22; with_reducible refine (f_used HX8.out 4 q_used1 4 rfl).mono ?_; rintro e u9 ⟨rfl, E⟩; have HX9 := Lib.hid E; clear E))
          go_ret
          exact ⟨rfl, HBw.out.trans (HX9.out.be.mono HBw.out.size)⟩
      · clear hlt
        go_wp2_with (first
          | (go_at_call 19; with_reducible refine (HST.out _ HF.out).mono ?_; rintro e u1 ⟨rfl, E⟩; have HX1 := Lib.hid E; clear E HF)
          | (with_reducible refine wpList_store_g rfl 38 (.tmp 17) (.tmp 120) rfl _ (by with_unfolding_all rfl) 38 (zG 32) cur (GA.new _ _ _) (by with_unfolding_all rfl) (by rw [HC32.out, z32.out]) (by rw [HC32.out]; exact infoState) ?_; intro u2 G6 S6 R6; have HX2 := HX1.out.made G6 R6; clear G6 S6 R6)
          | (with_reducible refine wpList_load_gd (by with_unfolding_all rfl) 38 (.tmp 17) rfl u1.heap.size (by with_unfolding_all rfl) 38 cur (HX2.out.ga (m0 _ _)) Try.underlying38 (by rw [HC32.out]; exact infoState) ?_)
          | (with_reducible refine wpList_load_gd (by with_unfolding_all rfl) 44 (.tmp 12) rfl b (by with_unfolding_all rfl) 44 cur (HX2.out.ga (m1 _ _ _)) Try.underlying44 (by rw [HC32.out]; exact infoGame11) ?_)
          | (go_at_call 21; with_reducible refine (f_room HX2.out).mono ?_; rintro e u8 ⟨rfl, E⟩; have HX8 := Lib.hid E; clear E)
          | (go_at_call 22; with_reducible refine (f_used HX8.out 4 q_used1 4 rfl).mono ?_; rintro e u9 ⟨rfl, E⟩; have HX9 := Lib.hid E; clear E))
        go_ret
        exact ⟨rfl, HBw.out.trans (HX9.out.be.mono HBw.out.size)⟩
end Go.Proofs.Ytkmkjfbbpeocdaa
