/- WALK of the law NetOrder. -/
import Derived.Test.YtolnafpicfemnaaHh
import Derived.Test.YtolnafpicfemnaaKi
import Derived.Deep.CutBlock
namespace Go.Proofs.Ytolnafpicfemnaa
set_option maxRecDepth 100000
open Go.RowKit
set_option linter.unusedVariables false
set_option linter.unusedSimpArgs false

/-- the law's way to a place -/
theorem way (z : Int) (d : Nat) (hd : 0 < d) : ∃ (t : Int) (F : Nat), z.tmod (d : Int) = t ∧ -(d : Int) < t ∧ t < (d : Int) ∧ (t + (d : Int)).tmod (d : Int) = (F : Int) ∧ (t + (d : Int)) % (d : Int) = (F : Int) ∧ F < d := by
  have h1 : z.tmod (d : Int) < (d : Int) := Int.tmod_lt_of_pos _ (by omega)
  have h2 : -(d : Int) < z.tmod (d : Int) := by
    have := Int.lt_tmod_of_pos z (b := (d : Int)) (by omega)
    exact this
  have h3 : 0 ≤ (z.tmod (d : Int) + (d : Int)) % (d : Int) := Int.emod_nonneg _ (by omega)
  have h4 : (z.tmod (d : Int) + (d : Int)) % (d : Int) < (d : Int) := Int.emod_lt_of_pos _ (by omega)
  refine ⟨_, ((z.tmod (d : Int) + (d : Int)) % (d : Int)).toNat, rfl, h2, h1, ?_, ?_, by omega⟩
  · rw [Int.tmod_eq_emod_of_nonneg (by omega)]; omega
  · omega
/-- mails in the order in which they were sent -/
def Ord (ps : List Pm) : Prop := ps.Pairwise (fun p q => p.f < q.f) ∧ ∀ p ∈ ps, 0 ≤ p.f ∧ p.f ≤ 60
theorem Ord.nil : Ord [] := ⟨List.Pairwise.nil, fun p hp => by cases hp⟩
theorem Ord.more {ps : List Pm} {a : Nat} (h : Ord ps) (hf : ∀ p ∈ ps, p.f < (a : Int)) (ha : a ≤ 60) (t : Int) (l : List UInt8) : Ord (ps ++ [⟨a, t, l⟩]) := by
  refine ⟨List.pairwise_append.2 ⟨h.1, List.pairwise_singleton .., fun p hp q hq => ?_⟩, fun p hp => ?_⟩
  · obtain rfl := List.mem_singleton.1 hq; exact hf p hp
  · rcases List.mem_append.1 hp with hp | hp
    · exact h.2 p hp
    · obtain rfl := List.mem_singleton.1 hp
      exact ⟨Int.natCast_nonneg _, by show (a : Int) ≤ 60; omega⟩
theorem Ord.erase {ps : List Pm} (h : Ord ps) (j : Nat) : Ord (ps.eraseIdx j) := ⟨h.1.sublist (List.eraseIdx_sublist ..), fun p hp => h.2 p ((List.eraseIdx_sublist ..).subset hp)⟩
theorem erase_len {ps : List Pm} (j : Nat) : (ps.eraseIdx j).length ≤ ps.length := (List.eraseIdx_sublist ps j).length_le
set_option maxHeartbeats 8000000 in
theorem order_law (n : Int) (A0 : Option Addr) (zs : List Int) (cap0 : Nat) (w : World) (hn : -9223372036854775808 ≤ n ∧ n ≤ 9223372036854775807) (h0 : RI w w.heap.size A0 zs) (k0 : zs.length ≤ cap0) (m0 : cap0 ≤ maxLen) (b0 : ∀ z ∈ zs, -9223372036854775808 ≤ z ∧ z ≤ 9223372036854775807) :
    Calls Try.prog 6 #[.int .i64 n, .slice A0 zs.length cap0] w fun e w' => e = .returned (.bool true) ∧ Below w.heap.size w w' := by
  have HG := Lib.hid (begun16_any w)
  have HN := Lib.hid hn
  have HR := Lib.hid h0
  have HB0 := Lib.hid b0
  obtain ⟨L, hL⟩ : ∃ L, zs.length = L := ⟨_, rfl⟩
  have HL := Lib.hid hL
  rw [hL] at k0 ⊢
  unfold maxLen at m0
  clear hn h0 b0 hL
  by_cases g1 : n < 0
  · go_enter Try.func6, Try.ntmps6
    go_wp2_with (go_at_call 8; with_reducible refine HG.out.mono ?_; rintro e w1 ⟨rfl, b1⟩)
    go_ret
    exact ⟨rfl, b1⟩
  by_cases g2 : 60 < n
  · go_enter Try.func6, Try.ntmps6
    go_wp2_with (go_at_call 8; with_reducible refine HG.out.mono ?_; rintro e w1 ⟨rfl, b1⟩)
    go_ret
    exact ⟨rfl, b1⟩
  obtain ⟨N, rfl⟩ : ∃ N : Nat, n = N := ⟨n.toNat, by omega⟩
  have hN : N ≤ 60 := by omega
  clear HN
  go_enter Try.func6, Try.ntmps6
  go_wp2_with fail
  (with_reducible refine HG.out.mono ?_)
  rintro e w1 ⟨rfl, b1⟩
  have HNw := Lib.hid (nf_new w w1 b1 noB (no_noB w w1))
  clear HG b1
  go_wp2_with fail
  (with_reducible refine HNw.out.mono ?_)
  rintro e w2 ⟨rfl, F2, -⟩
  have HF2 := Lib.hid F2
  clear HNw F2
  go_wp2_with fail
  go_loopw [7] (fun i wr => ∃ (a : Nat) (ps : List Pm), i = .int .i64 a ∧ a ≤ N ∧ Hid (ps.length = a) ∧ Hid (Ord ps) ∧ Hid (∀ p ∈ ps, p.f < (a : Int)) ∧ Hid (NF w wr w1.heap.size ps noB)) (fun i _ => N - (intOf i).toNat)
  case atStart => exact ⟨0, [], rfl, by omega, rfl, Lib.hid Ord.nil, Lib.hid (fun p hp => (by cases hp)), HF2⟩
  case round =>
    clear HF2
    obtain ⟨a, ps, rfl, ha, HPS, HO, HP, HFr⟩ := hrel
    by_cases hlt : a < N
    · have zlt : (a : Int) < N := by omega
      have HS := Lib.hid (nf_send HFr.out a 0 none 0 0 [] (RB.nil _ _ _) rfl (by rw [HPS.out]; omega) (by omega))
      clear HFr
      go_wp2_with fail
      (with_reducible refine HS.out.mono ?_)
      rintro e w3 ⟨rfl, F3, -⟩
      have HF3 := Lib.hid F3
      clear F3 HS
      go_wp2
      go_roundw
      case rel =>
        refine ⟨a + 1, ps ++ [⟨a, 0, []⟩], by go_num, by omega, ?_, Lib.hid (HO.out.more HP.out (by omega) 0 []), ?_, HF3⟩
        · show _ = _; rw [List.length_append, HPS.out]; rfl
        · intro p hp
          rcases List.mem_append.1 hp with hp | hp
          · have := HP.out p hp; omega
          · obtain rfl := List.mem_singleton.1 hp
            show (a : Int) < _; omega
      case measure => simp [intOf]; omega
    · have hle : Hid (ps.length ≤ 60) := by show _ ≤ _; rw [HPS.out]; omega
      have zlt : ¬ (a : Int) < N := by omega
      clear HPS HP
      go_upto_block 2 with fail
      go_cut [8, 9, 10, 11, 12, 13] from 37 to 83 (fun s8 s9 s10 s11 s12 s13 wx => ∃ ps : List Pm, Hid (ps.length ≤ 60) ∧ Hid (Ord ps) ∧ Hid (NF w wx w1.heap.size ps noB))
      case first =>
        go_wp2_with fail
        go_loopw [8] (fun i wy => ∃ (c : Nat) (ps : List Pm), i = .int .i64 c ∧ c ≤ 40 ∧ Hid (ps.length ≤ 60) ∧ Hid (Ord ps) ∧ Hid (NF w wy w1.heap.size ps noB)) (fun i _ => 40 - (intOf i).toNat)
        case atStart => exact ⟨0, ps, rfl, by omega, hle, HO, HFr⟩
        case round =>
          clear hle HO HFr
          obtain ⟨c, qs, rfl, hc, HLE, HO, HF⟩ := hrel
          by_cases c1 : c < L
          · have z1 : (c : Int) < L := by omega
            by_cases c2 : c < 40
            · have z2 : (c : Int) < 40 := by omega
              obtain ⟨m, hm⟩ : ∃ m, qs.length = m := ⟨_, rfl⟩
              have HLn := Lib.hid (nf_len HF.out m hm)
              have HM := Lib.hid hm
              have hm60 : m ≤ 60 := by have := HLE.out; omega
              clear hm
              go_wp2_with fail
              (with_reducible refine HLn.out.mono ?_)
              rintro e w4 ⟨rfl, rfl⟩
              by_cases hm0 : m = 0
              · subst hm0
                go_wp2
                go_meet
                exact ⟨qs, HLE, HO, HF⟩
              · have zm : ((m : Int) == 0) = false := by simp; omega
                have zm2 : ¬ (m : Int) = 0 := by omega
                obtain ⟨b, o, rfl, -, hcell⟩ := (show RI wr w.heap.size A0 zs from HR.out.below HF.out.be) (by rw [HL.out]; omega)
                obtain ⟨z, hz⟩ : ∃ z, zs[c]'(by rw [HL.out]; exact c1) = z := ⟨_, rfl⟩
                have bz := HB0.out z (by rw [← hz]; exact List.getElem_mem _)
                have cz : wr.cell? ⟨b, o + c, none⟩ = some (.int .i64 z) := by rw [hcell c (by rw [HL.out]; exact c1), hz]
                obtain ⟨t1, G, y1, y2, y3, y4, y5, hG⟩ := way z m (by omega)
                have ww1 : IntKind.i64.wrap (t1 + m) = t1 + m := by rw [IntKind.wrap_i64]; omega
                have HQ := Lib.hid (fun k => nf_len (HF.out.belows (below_drewN (Below.refl wr.heap.size wr) k)) m HM.out)
                have HZ := Lib.hid hz; have HBZ := Lib.hid bz
                clear hcell hz bz
                go_wp2_with fail
                go_quiet ((go_at_call 17; with_reducible exact same_left (HQ.out _)))
                obtain ⟨wq, hwq⟩ : ∃ wq, wq = wr.drewN nq := ⟨_, rfl⟩
                have FQ : NF w wq w1.heap.size qs noB := by rw [hwq]; exact HF.out.belows (below_drewN (Below.refl _ _) nq)
                rw [← hwq]
                obtain ⟨p, hp⟩ : ∃ p, qs[G]? = some p := ⟨_, List.getElem?_eq_getElem (by rw [HM.out]; exact hG)⟩
                obtain ⟨n, hn⟩ : ∃ n, p.l.length = n := ⟨_, rfl⟩
                have HL1 := Lib.hid (nf_look FQ (by rw [HM.out]; omega) G G rfl p hp n hn)
                have HP := Lib.hid hp; have HPN := Lib.hid hn; have HFQ := Lib.hid FQ
                clear hwq FQ hp hn y1 y2 y3 y4 y5 ww1 HQ cz HLn
                go_wp2_with fail
                (with_reducible refine HL1.out.mono ?_)
                rintro e w10 ⟨A10, c10, rfl, o10, b10⟩
                have HO10 := Lib.hid o10; have HB10 := Lib.hid b10
                clear HL1 o10 b10
                go_wp2_with (first
                  | (refine wpList_store_ml rfl (.tmp 10) (.tmp 67) rfl w10.heap.size (by rfl) (MlM.new w10 0 0 none 0 0) (by rfl) ?_; intro w11 p11 t11 g11))
                obtain ⟨F11, b11, o11, e11⟩ := NF.laid HFQ.out HB10.out w10.heap.size rfl p.f p.t A10 n c10 p.l HO10.out g11
                have P11 := Lib.hid p11
                have HT := Lib.hid (nf_take F11 (by rw [HM.out]; omega) G G rfl p HP.out n HPN.out)
                clear HFQ HO10 HB10 p11 t11 g11 F11 b11 o11 e11
                go_wp2_with fail
                (with_reducible refine HT.out.mono ?_)
                rintro e w13 ⟨A13, c13, rfl, o13, F13, S13⟩
                have P13 : Hid (MlM w13 w10.heap.size p.f p.t A10 n c10) := (S13 _ (.inr (.inl rfl))).trans P11.out
                have HF13 := Lib.hid (F13.less (O' := noB) (fun k hk => hk.elim))
                clear HT o13 F13 S13 P11
                generalize p.f = pf at *
                generalize p.t = pt at *
                go_wp2_with (first
                  | (refine wpList_store_ml rfl (.tmp 12) (.tmp 73) rfl w13.heap.size (by rfl) (MlM.new w13 0 0 none 0 0) (by rfl) ?_; intro w14 p14 t14 g14
                     have b14 : Below w13.heap.size w13 w14 := below_own ((Below.refl _ _).alloc (Nat.le_refl _) _) g14 (Nat.le_refl _)
                     obtain ⟨u0, u1, u2⟩ := p14.c
                     obtain ⟨x0, x1, x2⟩ := (P13.out.then_ b14).c
                     have HF14 := Lib.hid (HF13.out.belows b14)
                     clear p14 t14 g14 b14))
                go_roundw
                case rel => exact ⟨c + 1, qs.eraseIdx G, by go_num, by omega, Lib.hid (Nat.le_trans (erase_len G) HLE.out), Lib.hid (HO.out.erase G), HF14⟩
                case measure => simp [intOf]; omega
            · have z2 : ¬ (c : Int) < 40 := by omega
              go_wp2
              go_meet
              exact ⟨qs, HLE, HO, HF⟩
          · have z1 : ¬ (c : Int) < L := by omega
            go_wp2
            go_meet
            exact ⟨qs, HLE, HO, HF⟩
      case rest =>
        obtain ⟨qs, HLE, HO, HF⟩ := hcut
        obtain ⟨m, hm⟩ : ∃ m, qs.length = m := ⟨_, rfl⟩
        have HM := Lib.hid hm
        have hm60 : m ≤ 60 := by have := HLE.out; omega
        clear hm HFr hle
        go_wp2_with fail
        go_loopw [14, 15] (fun lv i wy => ∃ (d : Nat) (z : Int), i = .int .i64 d ∧ lv = .int .i64 z ∧ d ≤ m ∧ Hid (∀ p, qs[d]? = some p → z < p.f) ∧ Hid (NF w wy w1.heap.size qs noB)) (fun _ i _ => m - (intOf i).toNat)
        case atStart =>
          refine ⟨0, -1, rfl, rfl, by omega, ?_, HF⟩
          intro p hp
          have := HO.out.2 p (List.mem_of_getElem? hp)
          omega
        case round =>
          obtain ⟨d, z, rfl, rfl, hd, HZ, HFy⟩ := hrel
          clear HF
          have HLn := Lib.hid (nf_len HFy.out m HM.out)
          by_cases hlt : d < m
          · have zlt : (d : Int) < m := by omega
            obtain ⟨p, hp⟩ : ∃ p, qs[d]? = some p := ⟨_, List.getElem?_eq_getElem (by rw [HM.out]; exact hlt)⟩
            obtain ⟨n, hn⟩ : ∃ n, p.l.length = n := ⟨_, rfl⟩
            have hz := HZ.out p hp
            have HL1 := Lib.hid (nf_look HFy.out (by rw [HM.out]; omega) d d rfl p hp n hn)
            have HNX : Hid (∀ q, qs[d + 1]? = some q → p.f < q.f) := fun q hq => by
              obtain ⟨i1, e1⟩ := List.getElem?_eq_some_iff.1 hp
              obtain ⟨i2, e2⟩ := List.getElem?_eq_some_iff.1 hq
              rw [← e1, ← e2]
              exact List.pairwise_iff_getElem.1 HO.out.1 d (d + 1) i1 i2 (by omega)
            clear hp hn HZ
            generalize p.f = pf at *
            generalize p.t = pt at *
            have zle : ¬ pf ≤ z := by omega
            clear hz
            go_wp2_with fail
            (with_reducible refine HLn.out.mono ?_)
            rintro e w4 ⟨rfl, rfl⟩
            go_wp2_with fail
            (with_reducible refine HL1.out.mono ?_)
            rintro e w10 ⟨A10, c10, rfl, o10, b10⟩
            have HF10 := Lib.hid (HFy.out.belows b10)
            clear HL1 HLn o10 b10 HFy
            go_wp2_with (first
              | (refine wpList_store_ml rfl (.tmp 16) (.tmp 94) rfl w10.heap.size (by rfl) (MlM.new w10 0 0 none 0 0) (by rfl) ?_; intro w14 p14 t14 g14
                 have b14 : Below w10.heap.size w10 w14 := below_own ((Below.refl _ _).alloc (Nat.le_refl _) _) g14 (Nat.le_refl _)
                 obtain ⟨u0, u1, u2⟩ := p14.c
                 have HF14 := Lib.hid (HF10.out.belows b14)
                 clear p14 t14 g14 b14))
            go_roundw
            case rel => exact ⟨d + 1, pf, by go_num, rfl, by omega, HNX, HF14⟩
            case measure => simp [intOf]; omega
          · have zlt : ¬ (d : Int) < m := by omega
            have HBE := Lib.hid HFy.out.be
            go_wp2_with fail
            (with_reducible refine HLn.out.mono ?_)
            rintro e w4 ⟨rfl, rfl⟩
            go_wp2
            go_ret
            exact ⟨rfl, HBE.out⟩
end Go.Proofs.Ytolnafpicfemnaa
