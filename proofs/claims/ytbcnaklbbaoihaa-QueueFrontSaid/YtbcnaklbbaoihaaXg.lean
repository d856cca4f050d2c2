/- WALK of the law QueueFront. -/
import Derived.Test.YtbcnaklbbaoihaaXe
import Derived.Test.YtbcnaklbbaoihaaKi
namespace Go.Proofs.Ytbcnaklbbaoihaa
set_option maxRecDepth 100000
open Go.RowKit
set_option linter.unusedVariables false
set_option linter.unusedSimpArgs false

theorem way30 (z : Int) : ∃ (t : Int) (F : Nat), z.tmod 30 = t ∧ -30 < t ∧ t < 30 ∧ (t + 30).tmod 30 = (F : Int) ∧ (t + 30) % 30 = (F : Int) ∧ t % 30 = (F : Int) ∧ F < 30 := by
  have h1 : z.tmod 30 < 30 := Int.tmod_lt_of_pos _ (by omega)
  have h2 : -30 < z.tmod 30 := by
    have := Int.lt_tmod_of_pos z (b := 30) (by omega)
    omega
  refine ⟨_, ((z.tmod 30 + 30) % 30).toNat, rfl, h2, h1, ?_, ?_, ?_, by omega⟩
  · rw [Int.tmod_eq_emod_of_nonneg (by omega)]; omega
  · omega
  · omega
theorem rb_zeros (W : World) (k B : Nat) (hB : W.heap.size < B) : RB (W.alloc (madeB k)) B (some ⟨W.heap.size, 0, none⟩) (zB k) := fun _ =>
  ⟨W.heap.size, 0, rfl, hB, fun j hj => by
    rw [zB_len] at hj
    rw [Nat.zero_add]
    refine (World.rowIs.cell (w := W.alloc (madeB k)) (World.rowIs_made W (.int .u8 0) k 5) hj).trans ?_
    simp [zB, vb]⟩
theorem QF.zeros {w0 w : World} {q r : Nat} {xs : List Ln} {O : Nat → Prop} (h : QF w0 w q r xs O) (p b D s : Nat) (hx : xs[p]? = some ⟨b, zB D⟩) (hs : D + s ≤ 1000) :
    Calls Try.prog 18 #[pB b, .int .i64 D, .slice (some ⟨w.heap.size, 0, none⟩) s s] (w.alloc (madeB s)).drew fun e w' => e = .returned (.tuple #[.int .i64 s, .int .i64 0]) ∧ QF w0 w' q r (xs.set p ⟨b, zB (D + s)⟩) O := by
  have bA : Below w.heap.size w (w.alloc (madeB s)).drew := ((Below.refl _ _).alloc (Nat.le_refl _) _).drew
  have F := h.belows bA
  have hl := (F.qm.line p _ hx).1
  have hl' : LM (w.alloc (madeB s)).drew b D (zB D) := by have := hl; rw [show (⟨b, zB D⟩ : Ln).l.length = D from zB_len D] at this; exact this
  refine (put_on (w.alloc (madeB s)).drew b (zB D) (zB s) (some ⟨w.heap.size, 0, none⟩) s (w.heap.size + 1) D 0 D s s (zB_len D) (zB_len s) hl' (rb_zeros w s _ (by omega)) (Nat.le_refl _) (by unfold maxLen; omega) (Nat.le_refl _) (by omega) (by omega) hs).mono fun e w' ⟨he, h1, h2⟩ => ⟨he, ?_⟩
  have h3 : LM w' b (D + s : Nat) (zB (D + s)) := by rw [List.drop_zero, zB, zB, List.replicate_append_replicate] at h1; exact h1
  exact (F.put p ⟨b, zB D⟩ hx (zB (D + s)) (D + s) (zB_len _) h3 hs h2).1
theorem fold_shift (D : Nat) : ∀ (ss : List Nat) (m : Nat), ss.foldl (fun a s => min a (D + s)) (D + m) = D + ss.foldl min m
  | [], m => rfl
  | s :: r, m => by rw [List.foldl_cons, List.foldl_cons, show min (D + m) (D + s) = D + min m s by omega]; exact fold_shift D r _
/-- what is known of all, of lines of noughts -/
theorem frontN_of (xs : List Ln) (D : Nat) (ss : List Nat) (h : xs.map Ln.l = ss.map fun s => zB (D + s)) (h0 : 0 < ss.length) (hs : ∀ s ∈ ss, s ≤ 29) (hD : D ≤ 8) (m : Nat) (hm : m = ss.foldl min 1000) : frontN xs = D + m := by
  have e : frontN xs = (xs.map Ln.l).foldl (fun m l => min m l.length) 1000 := by unfold frontN; rw [List.foldl_map]
  rw [e, h, List.foldl_map, hm]
  simp only [zB_len]
  match ss, h0 with
  | s :: r, _ =>
    have hs1 := hs s (List.mem_cons_self ..)
    rw [List.foldl_cons, List.foldl_cons, show min 1000 (D + s) = D + s by omega, show min 1000 s = s by omega]
    exact fold_shift D r s
theorem fold_le : ∀ (ss : List Nat) (m : Nat), ss.foldl min m ≤ m
  | [], m => Nat.le_refl _
  | s :: r, m => by rw [List.foldl_cons]; have := fold_le r (min m s); omega
theorem set_next {α : Type} (A : List α) (z y : α) (k n : Nat) (hk : A.length = k) (hn : k < n) : (A ++ List.replicate (n - k) z).set k y = A ++ [y] ++ List.replicate (n - (k + 1)) z := by
  obtain ⟨m, hm⟩ : ∃ m, n - k = m + 1 := ⟨n - k - 1, by omega⟩
  rw [hm, show n - (k + 1) = m by omega, List.set_append_right _ _ (by omega), hk, Nat.sub_self, List.replicate_succ, List.set_cons_zero, List.append_assoc]
  rfl
set_option maxHeartbeats 4000000 in
theorem front_law (A0 : Option Addr) (zs : List Int) (cap0 : Nat) (d : Int) (w : World) (h0 : RI w w.heap.size A0 zs) (k0 : zs.length ≤ cap0) (m0 : cap0 ≤ maxLen) (d1 : -9223372036854775808 ≤ d) (d2 : d ≤ 9223372036854775807) :
    Calls Try.prog 5 #[.slice A0 zs.length cap0, .int .i64 d] w fun e w' => e = .returned (.bool true) ∧ Below w.heap.size w w' := by
  have HG := Lib.hid (begun17_any w)
  obtain ⟨n, hn⟩ : ∃ n, zs.length = n := ⟨_, rfl⟩
  rw [hn] at k0 ⊢
  have H0 := Lib.hid h0; have HN := Lib.hid hn; have K0 := Lib.hid k0; have M0 := Lib.hid m0
  clear h0 hn k0 m0
  by_cases g1 : n < 2
  · have g1' : (n : Int) < 2 := by omega
    clear d1 d2
    go_enter Try.func5, Try.ntmps5
    go_wp2_with (go_at_call 7; with_reducible refine HG.out.mono ?_; rintro e w3 ⟨rfl, hb⟩)
    go_ret
    exact ⟨rfl, hb⟩
  have g1' : ¬ (n : Int) < 2 := by omega
  by_cases g2 : 8 < n
  · have g2' : (8 : Int) < (n : Int) := by omega
    clear d1 d2
    go_enter Try.func5, Try.ntmps5
    go_wp2_with (go_at_call 7; with_reducible refine HG.out.mono ?_; rintro e w3 ⟨rfl, hb⟩)
    go_ret
    exact ⟨rfl, hb⟩
  have g2' : ¬ (8 : Int) < (n : Int) := by omega
  by_cases g3 : d < 0
  · clear d1 d2
    go_enter Try.func5, Try.ntmps5
    go_wp2_with (go_at_call 7; with_reducible refine HG.out.mono ?_; rintro e w3 ⟨rfl, hb⟩)
    go_ret
    exact ⟨rfl, hb⟩
  by_cases g4 : 8 < d
  · clear d1 d2
    go_enter Try.func5, Try.ntmps5
    go_wp2_with (go_at_call 7; with_reducible refine HG.out.mono ?_; rintro e w3 ⟨rfl, hb⟩)
    go_ret
    exact ⟨rfl, hb⟩
  obtain ⟨D, rfl⟩ : ∃ D : Nat, d = D := ⟨d.toNat, by omega⟩
  have hD : D ≤ 8 := by omega
  have g3' : decide ((D : Int) < 0) = false := by simp
  have g4' : decide ((8 : Int) < (D : Int)) = false := by simp; omega
  have g1d : decide ((n : Int) < 2) = false := by simp; omega
  have g2d : decide ((8 : Int) < (n : Int)) = false := by simp; omega
  clear d1 d2
  go_enter Try.func5, Try.ntmps5
  go_wp2_with (go_at_call 7; with_reducible refine HG.out.mono ?_; rintro e w3 ⟨rfl, hb⟩; have HB := Lib.hid hb; clear hb)
  refine (qf_new w _ HB.out noB (no_noB _ _) n D n D (by omega) (by omega)).mono ?_
  rintro e w4 ⟨q, r, xs, rfl, F4, hmp, -⟩
  have HF4 := Lib.hid F4; have HMP := Lib.hid hmp
  clear HG HB F4 hmp g1 g2 g3 g4
  go_wp2_with fail
  go_loopw [7, 8, 9] (fun a i b wr => ∃ (k m : Nat) (xs : List Ln) (ss : List Nat), i = .int .i64 (k : Int) ∧ a = .int .i64 (m : Int) ∧ k ≤ n ∧ m ≤ 1000 ∧ Hid (ss.length = k) ∧ Hid (m = ss.foldl min 1000) ∧ Hid (∀ s ∈ ss, s ≤ 29) ∧ Hid (xs.map Ln.l = ss.map (fun s => zB (D + s)) ++ List.replicate (n - k) (zB D)) ∧ Hid (QF w wr q r xs noB)) (fun _ i _ _ => n - (intOf i).toNat)
  case atStart => exact ⟨0, 1000, xs, [], rfl, rfl, by omega, by omega, rfl, rfl, (fun s hs => (by cases hs)), by show _ = _; rw [Nat.sub_zero]; exact HMP.out, HF4.out⟩
  case round =>
    obtain ⟨k, m, xs, ss, rfl, rfl, hk, hm, hss, hmf, hs29, hmp, F⟩ := hrel
    clear HF4 HMP
    by_cases hlt : k < n
    · have hkn : (k : Int) < (n : Int) := by omega
      obtain ⟨g, off, rfl, hg, hc⟩ := H0.out.below F.out.be (by have := HN.out; omega)
      have c0 := hc k (by have := HN.out; omega)
      obtain ⟨z, hz⟩ : ∃ z : Int, zs[k]'(by have := HN.out; omega) = z := ⟨_, rfl⟩
      rw [hz] at c0
      obtain ⟨t, s, u1, u2, u3, u4, u5, u6, hs30⟩ := way30 z
      obtain ⟨x, hx, hxl⟩ : ∃ x, xs[k]? = some x ∧ x.l = zB D := by
        have h1 := congrArg (·[k]?) hmp.out
        replace h1 : (xs.map Ln.l)[k]? = (ss.map (fun s => zB (D + s)) ++ List.replicate (n - k) (zB D))[k]? := h1
        rw [List.getElem?_append_right (by rw [List.length_map, hss.out]; exact Nat.le_refl _), List.length_map, hss.out, Nat.sub_self, List.getElem?_replicate, if_pos (by omega), List.getElem?_map] at h1
        obtain ⟨x, hx, e⟩ := Option.map_eq_some_iff.1 h1
        exact ⟨x, hx, e⟩
      obtain ⟨xb, xl⟩ := x
      obtain rfl : xl = zB D := hxl
      have bA : Below wr.heap.size wr (wr.alloc (madeB s)).drew := ((Below.refl _ _).alloc (Nat.le_refl _) _).drew
      have L1 := Lib.hid (line_in wr.drew q r xs F.out.drew.qm (k : Int) k rfl _ hx)
      have L2 := Lib.hid (line_in (wr.alloc (madeB s)).drew q r xs (F.out.belows bA).qm (k : Int) k rfl _ hx)
      have HP := Lib.hid (F.out.zeros k xb D s hx (by omega))
      have hmk := make_b s (by omega) wr.drew
      obtain ⟨m2, hm2⟩ : ∃ m2 : Nat, min m s = m2 := ⟨_, rfl⟩
      have e1 : min (m : Int) (s : Int) = (m2 : Int) := by omega
      have hmp2 : Hid ((xs.set k ⟨xb, zB (D + s)⟩).map Ln.l = (ss ++ [s]).map (fun s => zB (D + s)) ++ List.replicate (n - (k + 1)) (zB D)) := by
        show _ = _
        rw [List.map_set, hmp.out, set_next _ _ _ k n (by rw [List.length_map]; exact hss.out) hlt, List.map_append]; rfl
      have hss2 : Hid ((ss ++ [s]).length = k + 1) := by show _ = _; rw [List.length_append, hss.out]; rfl
      have hmf2 : Hid (m2 = (ss ++ [s]).foldl min 1000) := by show _ = _; rw [List.foldl_append, ← hmf.out, ← hm2]; rfl
      have hs292 : Hid (∀ y ∈ ss ++ [s], y ≤ 29) := by
        intro y hy
        rcases List.mem_append.1 hy with hy | hy
        · exact hs29.out y hy
        · obtain rfl := List.mem_singleton.1 hy; omega
      have hm21 : Hid (m2 ≤ 1000) := by show _ ≤ _; omega
      have hs1 : (s : Int) ≤ 29 := by omega
      have hk2 : Hid (k + 1 ≤ n) := hlt
      have hms : Hid (n - (k + 1) < n - k) := by show _ < _; omega
      clear hc hz hx bA hm2
      go_wp2_with fail
      go_region_with (first
        | (go_at_call 17; with_reducible refine L1.out.mono ?_; rintro e w5 ⟨rfl, rfl⟩)
        | (go_at_call 17; with_reducible refine L2.out.mono ?_; rintro e w5 ⟨rfl, rfl⟩)
        | (go_at_call 18; with_reducible refine HP.out.mono ?_; rintro e w5 ⟨rfl, F5⟩; have HF5 := Lib.hid F5; clear F5))
      all_goals
        clear hmk u1 u2 u3 u4 u5 u6
        go_wp2
        go_roundw
        case rel => exact ⟨k + 1, m2, _, ss ++ [s], by go_num, rfl, hk2.out, hm21.out, hss2, hmf2, hs292, hmp2, HF5⟩
        case measure => simp [intOf]; have := hms.out; omega
    · obtain rfl : k = n := by omega
      have hmp2 : xs.map Ln.l = ss.map fun s => zB (D + s) := by rw [hmp.out, Nat.sub_self, List.replicate_zero, List.append_nil]
      have hxk : xs.length = k := by have := congrArg List.length hmp2; rw [List.length_map, List.length_map, hss.out] at this; exact this
      obtain ⟨E, hE⟩ : ∃ E, D + m = E := ⟨_, rfl⟩
      have hF : frontN xs = E := by rw [← hE]; exact frontN_of xs D ss hmp2 (by rw [hss.out]; omega) hs29.out hD m hmf.out
      have hE1 : E ≤ 1008 := by omega
      have e3 : (D : Int) + (m : Int) = (E : Int) := by omega
      have HX := Lib.hid hxk
      have hx0 : 0 < xs.length := by omega
      have hx8 : xs.length ≤ 8 := by omega
      have J1 := Lib.hid (joint_out wr q r xs F.out.qm hx0 hx8 E hF (E : Int) (by omega))
      by_cases g0 : E = 0
      · have J2 := Lib.hid (joint_out wr q r xs F.out.qm hx0 hx8 E hF (-1) (by omega))
        have FR := Lib.hid (front_any wr q r xs F.out.qm hx0 hx8 E hF)
        have LA := Lib.hid (line_out wr q r xs F.out.qm k hxk (-1) (by omega))
        have LB := Lib.hid (line_out wr q r xs F.out.qm k hxk (k : Int) (by omega))
        have HB := Lib.hid F.out.be
        have e4 : (E : Int) - 1 = -1 := by omega
        have e5 : decide ((0 : Int) < (E : Int)) = false := by simp; omega
        have e6 : decide (0 < E) = false := by simp; omega
        clear hmp hmp2 hF hE hxk hx0 hx8 g0 hE1 F
        go_wp2_with (first
          | (go_at_call 14; with_reducible refine J1.out.mono ?_; rintro e w5 ⟨rfl, rfl⟩)
          | (go_at_call 14; with_reducible refine J2.out.mono ?_; rintro e w5 ⟨rfl, rfl⟩)
          | (go_at_call 12; with_reducible refine FR.out.mono ?_; rintro e w5 ⟨rfl, rfl⟩)
          | (go_at_call 17; with_reducible refine LA.out.mono ?_; rintro e w5 ⟨rfl, rfl⟩)
          | (go_at_call 17; with_reducible refine LB.out.mono ?_; rintro e w5 ⟨rfl, rfl⟩))
        go_ret
        exact ⟨rfl, HB.out⟩
      · obtain ⟨j, hj⟩ : ∃ j : Nat, E = j + 1 := ⟨E - 1, by omega⟩
        have J2 := Lib.hid (joint_in wr q r xs F.out.qm k hxk (by omega) (by omega) E hF (j : Int) j rfl (by omega))
        have HF := Lib.hid F.out
        have HFE := Lib.hid hF
        have e4 : (E : Int) - 1 = (j : Int) := by omega
        have e5 : decide ((0 : Int) < (E : Int)) = true := by simp; omega
        have e6 : decide (0 < E) = true := by simp; omega
        clear hmp hmp2 hF hE g0 hj F
        go_wp2_with (go_at_call 14; with_reducible refine J1.out.mono ?_; rintro e w5 ⟨rfl, rfl⟩)
        (with_reducible refine J2.out.mono ?_)
        rintro e w5 ⟨rfl, o5, b5⟩
        have F5 := HF.out.belows b5
        have FR := Lib.hid (front_any w5 q r xs F5.qm hx0 hx8 E HFE.out)
        have LA := Lib.hid (line_out w5 q r xs F5.qm k HX.out (-1) (by omega))
        have LB := Lib.hid (line_out w5 q r xs F5.qm k HX.out (k : Int) (by omega))
        have HB := Lib.hid F5.be
        clear HF F5 o5 b5 J1 J2 hx0 hx8 hxk hE1
        go_wp2_with (first
          | (go_at_call 12; with_reducible refine FR.out.mono ?_; rintro e w6 ⟨rfl, rfl⟩)
          | (go_at_call 17; with_reducible refine LA.out.mono ?_; rintro e w6 ⟨rfl, rfl⟩)
          | (go_at_call 17; with_reducible refine LB.out.mono ?_; rintro e w6 ⟨rfl, rfl⟩))
        go_ret
        exact ⟨rfl, HB.out⟩
end Go.Proofs.Ytbcnaklbbaoihaa
