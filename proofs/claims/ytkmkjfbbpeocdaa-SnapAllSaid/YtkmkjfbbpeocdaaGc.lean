/- WALKS over package state: Page, With. -/
import Derived.Test.YtkmkjfbbpeocdaaGb
import Derived.Deep.RegionLaw
namespace Go.Proofs.Ytkmkjfbbpeocdaa
open Go.RowKit
set_option linter.unusedVariables false

/-- cs laid over zs from place off on -/
def spl (zs : List Int) (off : Nat) (cs : List Int) : List Int := zs.take off ++ cs ++ zs.drop (off + cs.length)
theorem spl_length (zs : List Int) (off : Nat) (cs : List Int) (h : off + cs.length ≤ zs.length) : (spl zs off cs).length = zs.length := by
  unfold spl; simp; omega
theorem run_copy_g {P : Program} (w : World) (dT sT ty elem : TypeId) (hu : P.underlying dT = some (.slice elem)) (hs : (P.info? elem).map (·.size) = some 1)
    (b o n c : Nat) (t : TypeId) (zs : List Int) (hg : GA w b t zs) (b2 o2 m c2 : Nat) (t2 : TypeId) (xs : List Int) (hx : GA w b2 t2 xs) (cs : List Int) (hcs : cs = (xs.drop o2).take (Nat.min m n)) (hn : cs.length = Nat.min m n) (hfit : o + cs.length ≤ zs.length) :
    ∃ w', (Builtin.copy_ #[dT, sT] ty #[.slice (some ⟨b, o, none⟩) n c, .slice (some ⟨b2, o2, none⟩) m c2]).run P w = .ok (goInt cs.length) w' ∧ GA w' b t (spl zs o cs) ∧ w'.heap.size = w.heap.size ∧ w.grownBy w' (some b) := by
  have h := run_copy_row (P := P) w dT sT ty elem b o n c ⟨b2, o2, none⟩ m c2 (gC zs) t (cs.map vi) hu hs hg (by simpa using hn) (fun j v hv => by
    rw [List.getElem?_map] at hv
    by_cases hj : j < cs.length
    · rw [List.getElem?_eq_getElem hj] at hv
      have hj2 : o2 + j < xs.length := by
        have := congrArg List.length hcs
        simp at this; omega
      rw [Addr.add_lit, hx.cell (o2 + j) hj2, ← hv]
      subst hcs
      simp [vi]
    · rw [List.getElem?_eq_none (by omega)] at hv; cases hv) (by rw [gC_size]; simpa using hfit) (fun v hv => by obtain ⟨x, _, rfl⟩ := List.mem_map.1 hv; rfl)
  have e : ((gC zs).toList.take o ++ cs.map vi ++ (gC zs).toList.drop (o + (cs.map vi).length)).toArray = gC (spl zs o cs) := by
    unfold gC spl; simp
  rw [e, List.length_map] at h
  exact ⟨_, h, setRow_heap w b _ _ t _ hg, by simp [World.setRow], ⟨rfl, rfl, rfl, by simp [World.setRow], fun k hk hne => setRow_other w b k _ (fun e => hne (by rw [e]))⟩⟩
theorem step_copy_g {P : Program} {ops : Array Oper} {op : Oper} {a : Act} {w : World} {K : Act → World → Prop} {Q : Exit → Act → World → Prop} {E : Prop} (hgd : op.guard = none) (d s : Operand) (dT sT : TypeId)
    (ho : op.op = .call { callee := .builtin .copy, args := #[d, s], argTypes := #[dT, sT] }) (elem : TypeId) (hu : P.underlying dT = some (.slice elem)) (hs : (P.info? elem).map (·.size) = some 1)
    (b o n c b2 o2 m c2 : Nat) (hd : a.eval d = .slice (some ⟨b, o, none⟩) n c) (hsv : a.eval s = .slice (some ⟨b2, o2, none⟩) m c2)
    (t : TypeId) (zs : List Int) (hg : GA w b t zs) (t2 : TypeId) (xs : List Int) (hx : GA w b2 t2 xs) (cs : List Int) (hcs : cs = (xs.drop o2).take (Nat.min m n)) (hn : cs.length = Nat.min m n) (hfit : o + cs.length ≤ zs.length)
    (h : ∀ w', GA w' b t (spl zs o cs) → w'.heap.size = w.heap.size → w.grownBy w' (some b) → K (a.put op.dst (goInt cs.length)) w') :
    if Region.wanted op (yielded ops a.tmps) = true then Oper.wp P op a w K Q else E := by
  have hw : Region.wanted op (yielded ops a.tmps) = true := by simp [Region.wanted, hgd]
  rw [if_pos hw]
  obtain ⟨w', hrun, h1, h2, h3⟩ := run_copy_g (P := P) w dT sT op.type elem hu hs b o n c t zs hg b2 o2 m c2 t2 xs hx cs hcs hn hfit
  unfold Oper.wp
  simp [execOp, ho, resolve, invoke, builtin, hd, hsv, hrun, Result.andThen]
  exact h w' h1 h2 h3

/-- a game's page -/
def pageG (g : List Int) (i : Int) : List Int := if pgB i then (g.drop (8 * i.toNat)).take 8 else zG 8
theorem pageG_length (g : List Int) (i : Int) (hg : g.length = 32) : (pageG g i).length = 8 := by
  unfold pageG
  split
  · rename_i h; unfold pgB at h; simp at h; simp [hg]; omega
  · exact zG_length 8
/-- a game with another page -/
def withG (g : List Int) (i : Int) (p : List Int) : List Int := if pgB i then spl g (8 * i.toNat) p else g
theorem withG_length (g : List Int) (i : Int) (p : List Int) (hg : g.length = 32) (hp : p.length = 8) : (withG g i p).length = 32 := by
  unfold withG
  split
  · rename_i h; unfold pgB at h; simp at h; rw [spl_length _ _ _ (by omega), hg]
  · exact hg
theorem infoPage : (Try.prog.info? 72).map (·.size) = some 8 := by kernel_rfl
theorem infoCell : (Try.prog.info? 21).map (·.size) = some 1 := by kernel_rfl
theorem zeroPage (w : World) : (zeroValue 72).run Try.prog w = .ok (.agg (gC (zG 8))) w :=
  (zero_of_info (P := Try.prog) (t := 72) (v := .agg (gC (zG 8))) (n := 8) (by kernel_rfl)).1 w

theorem page_false (g : List Int) (i : Int) (w : World) (hg : g.length = 32) (h : pgB i = false) :
    Calls Try.prog 35 #[.agg (gC g), .int .i64 i] w fun e w' => e = .returned (.agg (gC (zG 8))) ∧ Below w.heap.size w w' := by
  have hz := zeroPage
  have HP := Lib.hid h; clear h
  have hi8 : (zG 8).length = 8 := zG_length 8
  go_enter Try.func35, Try.ntmps35
  go_wp2_with fail
  refine (ispage_any i _).mono ?_
  rintro e w' ⟨rfl, rfl⟩
  rw [HP.out]
  have G0 : Hid (GA (((w.alloc (.cells (gC g) 38)).alloc (.cells (gC (zG 8)) 72)).alloc (.cells (gC (zG 8)) 72)) (w.heap.size + 1) 72 (zG 8)) := Lib.hid (((GA.new_at (w.alloc (.cells (gC g) 38)) (w.heap.size + 1) 72 (zG 8) (by simp)).alloc (.cells (gC (zG 8)) 72)))
  have G1 : Hid (GA (((w.alloc (.cells (gC g) 38)).alloc (.cells (gC (zG 8)) 72)).alloc (.cells (gC (zG 8)) 72)) (w.heap.size + 1 + 1) 72 (zG 8)) := Lib.hid (GA.new_at ((w.alloc (.cells (gC g) 38)).alloc (.cells (gC (zG 8)) 72)) (w.heap.size + 1 + 1) 72 (zG 8) (by simp))
  clear hz
  go_wp2_with (first
    | (with_reducible refine wpList_load_g rfl 72 (.tmp 5) rfl _ (by with_unfolding_all rfl) 72 (zG 8) G1.out Try.underlying72 (by rw [hi8]; exact infoPage) ?_)
    | (with_reducible refine wpList_store_g rfl 72 (.tmp 4) (.tmp 13) rfl _ (by with_unfolding_all rfl) 72 (zG 8) (zG 8) G0.out (by with_unfolding_all rfl) rfl (by rw [hi8]; exact infoPage) ?_; intro w3 G3 S3 R3))
  exact bodyPost_ret (results_g rfl G3 rfl Try.underlying72 (by rw [hi8]; exact infoPage)) rfl ⟨rfl, (((((Below.refl _ _).alloc (Nat.le_refl _) _).alloc (by simp) _).alloc (by simp; omega) _)).grown R3 (by simp; omega) (by simp)⟩
theorem page_0 (g : List Int) (w : World) (hg : g.length = 32) :
    Calls Try.prog 35 #[.agg (gC g), .int .i64 0] w fun e w' => e = .returned (.agg (gC ((g.drop 0).take 8))) ∧ Below w.heap.size w w' := by
  have hz := zeroPage
  obtain ⟨p, hp⟩ : ∃ p, p = (g.drop 0).take 8 := ⟨_, rfl⟩
  have hl : p.length = 8 := by rw [hp]; simp; omega
  have hs : spl (zG 8) 0 p = p := by unfold spl; simp [hl, zG]
  rw [← hp]
  have HP := Lib.hid hp; clear hp
  have HS := Lib.hid hs; clear hs
  have hi8 : (zG 8).length = 8 := zG_length 8
  go_enter Try.func35, Try.ntmps35
  go_wp2_with fail
  refine (ispage_any 0 _).mono ?_
  rintro e w' ⟨rfl, rfl⟩
  rw [show pgB 0 = true from rfl]
  have G := Lib.hid ((((GA.new w 38 g).alloc (.cells (gC (zG 8)) 72)).alloc (.cells (gC (zG 8)) 72)))
  have G0 : Hid (GA (((w.alloc (.cells (gC g) 38)).alloc (.cells (gC (zG 8)) 72)).alloc (.cells (gC (zG 8)) 72)) (w.heap.size + 1) 72 (zG 8)) := Lib.hid (((GA.new_at (w.alloc (.cells (gC g) 38)) (w.heap.size + 1) 72 (zG 8) (by simp)).alloc (.cells (gC (zG 8)) 72)))
  have G1 : Hid (GA (((w.alloc (.cells (gC g) 38)).alloc (.cells (gC (zG 8)) 72)).alloc (.cells (gC (zG 8)) 72)) (w.heap.size + 1 + 1) 72 (zG 8)) := Lib.hid (GA.new_at ((w.alloc (.cells (gC g) 38)).alloc (.cells (gC (zG 8)) 72)) (w.heap.size + 1 + 1) 72 (zG 8) (by simp))
  have HB := Lib.hid (((((Below.refl w.heap.size w).alloc (Nat.le_refl _) (.cells (gC g) 38)).alloc (by simp) (.cells (gC (zG 8)) 72)).alloc (by simp; omega) (.cells (gC (zG 8)) 72)))
  clear hz
  have hwr : IntKind.i64.wrap 0 = 0 := rfl
  go_wp2_with fail
  go_region_law (refine step_copy_g (by rfl) (.tmp 8) (.tmp 11) 31 31 (by rfl) 21 Try.underlying31 infoCell _ 0 8 8 _ 0 32 32 (by rfl) (by rfl) 72 (zG 8) G1.out.drew 38 g G.out.drew p HP.out (by rw [hl]; rfl) (by rw [hl, hi8]; omega) ?_; intro w3 G3 S3 R3; rw [HS.out] at G3; have F0 := G0.out.drew.grown R3 (by simp); have B3 := HB.out.drew.grown R3 (by simp; omega) (by simp; omega))
  all_goals
    go_wp2_with (first
      | (with_reducible refine wpList_load_g rfl 72 (.tmp 5) rfl _ (by with_unfolding_all rfl) 72 p G3 Try.underlying72 (by rw [hl]; exact infoPage) ?_)
      | (with_reducible refine wpList_store_g rfl 72 (.tmp 4) (.tmp 13) rfl _ (by with_unfolding_all rfl) 72 (zG 8) p F0 (by with_unfolding_all rfl) (by rw [hl, hi8]) (by rw [hl]; exact infoPage) ?_; intro w4 G4 S4 R4))
    exact bodyPost_ret (results_g rfl G4 rfl Try.underlying72 (by rw [hl]; exact infoPage)) rfl ⟨rfl, B3.grown R4 B3.size (by simp)⟩
theorem page_1 (g : List Int) (w : World) (hg : g.length = 32) :
    Calls Try.prog 35 #[.agg (gC g), .int .i64 1] w fun e w' => e = .returned (.agg (gC ((g.drop 8).take 8))) ∧ Below w.heap.size w w' := by
  have hz := zeroPage
  obtain ⟨p, hp⟩ : ∃ p, p = (g.drop 8).take 8 := ⟨_, rfl⟩
  have hl : p.length = 8 := by rw [hp]; simp; omega
  have hs : spl (zG 8) 0 p = p := by unfold spl; simp [hl, zG]
  rw [← hp]
  have HP := Lib.hid hp; clear hp
  have HS := Lib.hid hs; clear hs
  have hi8 : (zG 8).length = 8 := zG_length 8
  go_enter Try.func35, Try.ntmps35
  go_wp2_with fail
  refine (ispage_any 1 _).mono ?_
  rintro e w' ⟨rfl, rfl⟩
  rw [show pgB 1 = true from rfl]
  have G := Lib.hid ((((GA.new w 38 g).alloc (.cells (gC (zG 8)) 72)).alloc (.cells (gC (zG 8)) 72)))
  have G0 : Hid (GA (((w.alloc (.cells (gC g) 38)).alloc (.cells (gC (zG 8)) 72)).alloc (.cells (gC (zG 8)) 72)) (w.heap.size + 1) 72 (zG 8)) := Lib.hid (((GA.new_at (w.alloc (.cells (gC g) 38)) (w.heap.size + 1) 72 (zG 8) (by simp)).alloc (.cells (gC (zG 8)) 72)))
  have G1 : Hid (GA (((w.alloc (.cells (gC g) 38)).alloc (.cells (gC (zG 8)) 72)).alloc (.cells (gC (zG 8)) 72)) (w.heap.size + 1 + 1) 72 (zG 8)) := Lib.hid (GA.new_at ((w.alloc (.cells (gC g) 38)).alloc (.cells (gC (zG 8)) 72)) (w.heap.size + 1 + 1) 72 (zG 8) (by simp))
  have HB := Lib.hid (((((Below.refl w.heap.size w).alloc (Nat.le_refl _) (.cells (gC g) 38)).alloc (by simp) (.cells (gC (zG 8)) 72)).alloc (by simp; omega) (.cells (gC (zG 8)) 72)))
  clear hz
  have hwr : IntKind.i64.wrap 8 = 8 := rfl
  go_wp2_with fail
  go_region_law (refine step_copy_g (by rfl) (.tmp 8) (.tmp 11) 31 31 (by rfl) 21 Try.underlying31 infoCell _ 0 8 8 _ 8 24 24 (by rfl) (by rfl) 72 (zG 8) G1.out.drew 38 g G.out.drew p HP.out (by rw [hl]; rfl) (by rw [hl, hi8]; omega) ?_; intro w3 G3 S3 R3; rw [HS.out] at G3; have F0 := G0.out.drew.grown R3 (by simp); have B3 := HB.out.drew.grown R3 (by simp; omega) (by simp; omega))
  all_goals
    go_wp2_with (first
      | (with_reducible refine wpList_load_g rfl 72 (.tmp 5) rfl _ (by with_unfolding_all rfl) 72 p G3 Try.underlying72 (by rw [hl]; exact infoPage) ?_)
      | (with_reducible refine wpList_store_g rfl 72 (.tmp 4) (.tmp 13) rfl _ (by with_unfolding_all rfl) 72 (zG 8) p F0 (by with_unfolding_all rfl) (by rw [hl, hi8]) (by rw [hl]; exact infoPage) ?_; intro w4 G4 S4 R4))
    exact bodyPost_ret (results_g rfl G4 rfl Try.underlying72 (by rw [hl]; exact infoPage)) rfl ⟨rfl, B3.grown R4 B3.size (by simp)⟩
theorem page_2 (g : List Int) (w : World) (hg : g.length = 32) :
    Calls Try.prog 35 #[.agg (gC g), .int .i64 2] w fun e w' => e = .returned (.agg (gC ((g.drop 16).take 8))) ∧ Below w.heap.size w w' := by
  have hz := zeroPage
  obtain ⟨p, hp⟩ : ∃ p, p = (g.drop 16).take 8 := ⟨_, rfl⟩
  have hl : p.length = 8 := by rw [hp]; simp; omega
  have hs : spl (zG 8) 0 p = p := by unfold spl; simp [hl, zG]
  rw [← hp]
  have HP := Lib.hid hp; clear hp
  have HS := Lib.hid hs; clear hs
  have hi8 : (zG 8).length = 8 := zG_length 8
  go_enter Try.func35, Try.ntmps35
  go_wp2_with fail
  refine (ispage_any 2 _).mono ?_
  rintro e w' ⟨rfl, rfl⟩
  rw [show pgB 2 = true from rfl]
  have G := Lib.hid ((((GA.new w 38 g).alloc (.cells (gC (zG 8)) 72)).alloc (.cells (gC (zG 8)) 72)))
  have G0 : Hid (GA (((w.alloc (.cells (gC g) 38)).alloc (.cells (gC (zG 8)) 72)).alloc (.cells (gC (zG 8)) 72)) (w.heap.size + 1) 72 (zG 8)) := Lib.hid (((GA.new_at (w.alloc (.cells (gC g) 38)) (w.heap.size + 1) 72 (zG 8) (by simp)).alloc (.cells (gC (zG 8)) 72)))
  have G1 : Hid (GA (((w.alloc (.cells (gC g) 38)).alloc (.cells (gC (zG 8)) 72)).alloc (.cells (gC (zG 8)) 72)) (w.heap.size + 1 + 1) 72 (zG 8)) := Lib.hid (GA.new_at ((w.alloc (.cells (gC g) 38)).alloc (.cells (gC (zG 8)) 72)) (w.heap.size + 1 + 1) 72 (zG 8) (by simp))
  have HB := Lib.hid (((((Below.refl w.heap.size w).alloc (Nat.le_refl _) (.cells (gC g) 38)).alloc (by simp) (.cells (gC (zG 8)) 72)).alloc (by simp; omega) (.cells (gC (zG 8)) 72)))
  clear hz
  have hwr : IntKind.i64.wrap 16 = 16 := rfl
  go_wp2_with fail
  go_region_law (refine step_copy_g (by rfl) (.tmp 8) (.tmp 11) 31 31 (by rfl) 21 Try.underlying31 infoCell _ 0 8 8 _ 16 16 16 (by rfl) (by rfl) 72 (zG 8) G1.out.drew 38 g G.out.drew p HP.out (by rw [hl]; rfl) (by rw [hl, hi8]; omega) ?_; intro w3 G3 S3 R3; rw [HS.out] at G3; have F0 := G0.out.drew.grown R3 (by simp); have B3 := HB.out.drew.grown R3 (by simp; omega) (by simp; omega))
  all_goals
    go_wp2_with (first
      | (with_reducible refine wpList_load_g rfl 72 (.tmp 5) rfl _ (by with_unfolding_all rfl) 72 p G3 Try.underlying72 (by rw [hl]; exact infoPage) ?_)
      | (with_reducible refine wpList_store_g rfl 72 (.tmp 4) (.tmp 13) rfl _ (by with_unfolding_all rfl) 72 (zG 8) p F0 (by with_unfolding_all rfl) (by rw [hl, hi8]) (by rw [hl]; exact infoPage) ?_; intro w4 G4 S4 R4))
    exact bodyPost_ret (results_g rfl G4 rfl Try.underlying72 (by rw [hl]; exact infoPage)) rfl ⟨rfl, B3.grown R4 B3.size (by simp)⟩
theorem page_3 (g : List Int) (w : World) (hg : g.length = 32) :
    Calls Try.prog 35 #[.agg (gC g), .int .i64 3] w fun e w' => e = .returned (.agg (gC ((g.drop 24).take 8))) ∧ Below w.heap.size w w' := by
  have hz := zeroPage
  obtain ⟨p, hp⟩ : ∃ p, p = (g.drop 24).take 8 := ⟨_, rfl⟩
  have hl : p.length = 8 := by rw [hp]; simp; omega
  have hs : spl (zG 8) 0 p = p := by unfold spl; simp [hl, zG]
  rw [← hp]
  have HP := Lib.hid hp; clear hp
  have HS := Lib.hid hs; clear hs
  have hi8 : (zG 8).length = 8 := zG_length 8
  go_enter Try.func35, Try.ntmps35
  go_wp2_with fail
  refine (ispage_any 3 _).mono ?_
  rintro e w' ⟨rfl, rfl⟩
  rw [show pgB 3 = true from rfl]
  have G := Lib.hid ((((GA.new w 38 g).alloc (.cells (gC (zG 8)) 72)).alloc (.cells (gC (zG 8)) 72)))
  have G0 : Hid (GA (((w.alloc (.cells (gC g) 38)).alloc (.cells (gC (zG 8)) 72)).alloc (.cells (gC (zG 8)) 72)) (w.heap.size + 1) 72 (zG 8)) := Lib.hid (((GA.new_at (w.alloc (.cells (gC g) 38)) (w.heap.size + 1) 72 (zG 8) (by simp)).alloc (.cells (gC (zG 8)) 72)))
  have G1 : Hid (GA (((w.alloc (.cells (gC g) 38)).alloc (.cells (gC (zG 8)) 72)).alloc (.cells (gC (zG 8)) 72)) (w.heap.size + 1 + 1) 72 (zG 8)) := Lib.hid (GA.new_at ((w.alloc (.cells (gC g) 38)).alloc (.cells (gC (zG 8)) 72)) (w.heap.size + 1 + 1) 72 (zG 8) (by simp))
  have HB := Lib.hid (((((Below.refl w.heap.size w).alloc (Nat.le_refl _) (.cells (gC g) 38)).alloc (by simp) (.cells (gC (zG 8)) 72)).alloc (by simp; omega) (.cells (gC (zG 8)) 72)))
  clear hz
  have hwr : IntKind.i64.wrap 24 = 24 := rfl
  go_wp2_with fail
  go_region_law (refine step_copy_g (by rfl) (.tmp 8) (.tmp 11) 31 31 (by rfl) 21 Try.underlying31 infoCell _ 0 8 8 _ 24 8 8 (by rfl) (by rfl) 72 (zG 8) G1.out.drew 38 g G.out.drew p HP.out (by rw [hl]; rfl) (by rw [hl, hi8]; omega) ?_; intro w3 G3 S3 R3; rw [HS.out] at G3; have F0 := G0.out.drew.grown R3 (by simp); have B3 := HB.out.drew.grown R3 (by simp; omega) (by simp; omega))
  all_goals
    go_wp2_with (first
      | (with_reducible refine wpList_load_g rfl 72 (.tmp 5) rfl _ (by with_unfolding_all rfl) 72 p G3 Try.underlying72 (by rw [hl]; exact infoPage) ?_)
      | (with_reducible refine wpList_store_g rfl 72 (.tmp 4) (.tmp 13) rfl _ (by with_unfolding_all rfl) 72 (zG 8) p F0 (by with_unfolding_all rfl) (by rw [hl, hi8]) (by rw [hl]; exact infoPage) ?_; intro w4 G4 S4 R4))
    exact bodyPost_ret (results_g rfl G4 rfl Try.underlying72 (by rw [hl]; exact infoPage)) rfl ⟨rfl, B3.grown R4 B3.size (by simp)⟩
end Go.Proofs.Ytkmkjfbbpeocdaa
