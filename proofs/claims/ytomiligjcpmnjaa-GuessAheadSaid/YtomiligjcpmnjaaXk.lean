/- The Puts of both, by one plain answer; QueueAll's memory. -/
import Derived.Test.YtomiligjcpmnjaaXj
namespace Go.Proofs.Ytomiligjcpmnjaa
set_option maxRecDepth 100000
open Go.RowKit
set_option linter.unusedVariables false
set_option linter.unusedSimpArgs false

/-- what Put answers and leaves: how many, the error, the line -/
def putP (l : List UInt8) (z : Int) (x : List UInt8) : Int × Int × List UInt8 :=
  if z < 0 then (0, 1, l) else if (l.length : Int) < z then (0, 2, l) else
    let p := min (l.length - z.toNat) x.length
    let m := x.length - p
    let n := min (1000 - l.length) m
    ((n : Int), (if n < m then 4 else 0), l ++ (x.drop p).take n)
theorem set_self {α : Type} (xs : List α) (j : Nat) (x : α) (h : xs[j]? = some x) : xs.set j x = xs := by
  refine List.ext_getElem? fun i => ?_
  rw [List.getElem?_set]
  by_cases e : j = i
  · subst e; rw [if_pos rfl, if_pos (List.getElem?_eq_some_iff.1 h).1, h]
  · rw [if_neg e]
section
variable {w0 w w' : World} {q r : Nat} {xs : List Ln} {O O' : Nat → Prop}
theorem qf_put (h : QF w0 w q r xs O) (j b : Nat) (l x : List UInt8) (hx : xs[j]? = some ⟨b, l⟩) (z : Int) (A : Option Addr) (cap B X : Nat) (hX : x.length = X) (hr : RB w B A x) (hc : X ≤ cap) (hm : cap ≤ maxLen) (a e : Int) (l' : List UInt8) (hp : putP l z x = (a, e, l')) :
    Calls Try.prog 21 #[pB b, .int .i64 z, .slice A X cap] w fun en w' => en = .returned (.tuple #[.int .i64 a, .int .i64 e]) ∧ QF w0 w' q r (xs.set j ⟨b, l'⟩) O ∧ Same O w w' := by
  obtain ⟨hlm, hl1⟩ := h.qm.line j _ hx
  unfold putP at hp
  by_cases h1 : z < 0
  · rw [if_pos h1] at hp
    injection hp with e1 hp; injection hp with e2 e3
    subst e1 e2 e3
    refine (put_neg w b _ l hlm z _ h1).mono ?_
    rintro en w' ⟨rfl, rfl⟩
    rw [set_self xs j _ hx]
    exact ⟨rfl, h, fun k _ => rfl⟩
  · rw [if_neg h1] at hp
    by_cases h2 : (l.length : Int) < z
    · rw [if_pos h2] at hp
      injection hp with e1 hp; injection hp with e2 e3
      subst e1 e2 e3
      refine (put_more w b _ l hlm z _ h2).mono ?_
      rintro en w' ⟨rfl, rfl⟩
      rw [set_self xs j _ hx]
      exact ⟨rfl, h, fun k _ => rfl⟩
    · rw [if_neg h2] at hp
      obtain ⟨f, rfl⟩ : ∃ f : Nat, z = f := ⟨z.toNat, by omega⟩
      simp only [Int.toNat_natCast, hX] at hp
      injection hp with e1 hp; injection hp with e2 e3
      subst e1 e2 e3
      refine (put_in w b l x A cap B f _ l.length X rfl hX hlm hl1 hr hc hm (by omega) rfl _ rfl _ rfl).mono fun en w' ⟨he, q1, q2⟩ => ⟨he, ?_⟩
      refine h.put j ⟨b, l⟩ hx _ _ ?_ q1 ?_ q2
      · rw [List.length_append, List.length_take, List.length_drop, hX]; omega
      · have : l.length ≤ 1000 := hl1; omega
theorem rput_any (w : World) (g p : Nat) (cur : Array Value) (v : Value) (l x : List UInt8) (base : Nat) (z : Int) (A : Option Addr) (cap B X : Nat) (hrow : w.heap[g]? = some (lineO cur)) (hv : cur[p]? = some v) (hob : OB w base v l) (hvg : v.ownBlock ≠ some g) (hx : RB w B A x) (hB : B ≤ base) (hBg : B ≤ g) (hbase : base ≤ w.heap.size)
    (hX : x.length = X) (hl : l.length ≤ 1000) (hX12 : X ≤ 1000) (a e : Int) (l' : List UInt8) (hp : putP l z x = (a, e, l')) :
    Calls Try.prog 24 #[.pointer (some ⟨g, p, none⟩), .int .i64 z, .slice A X cap] w fun en w' => en = .returned (.tuple #[.int .i64 a, .int .i64 e]) ∧ ∃ v', RPut w w' g p cur v v' ∧ OB w' base v' l' := by
  unfold putP at hp
  by_cases h1 : z < 0
  · rw [if_pos h1] at hp
    injection hp with e1 hp; injection hp with e2 e3
    subst e1 e2 e3
    refine (rput_neg w _ _ _ z rfl h1).mono ?_
    rintro en w' ⟨rfl, rfl⟩
    exact ⟨rfl, v, RPut.start hrow hv, hob⟩
  · rw [if_neg h1] at hp
    by_cases h2 : (l.length : Int) < z
    · rw [if_pos h2] at hp
      injection hp with e1 hp; injection hp with e2 e3
      subst e1 e2 e3
      obtain ⟨A0, c0, e4, -, -, -⟩ := hob.form_n l.length rfl
      have hc := (RPut.start hrow hv).cell (Array.getElem?_eq_some_iff.1 hv).1
      rw [e4] at hc
      refine (rput_more w g p _ z A0 l.length c0 hc h2).mono ?_
      rintro en w' ⟨rfl, rfl⟩
      exact ⟨rfl, v, RPut.start hrow hv, hob⟩
    · rw [if_neg h2] at hp
      obtain ⟨f, rfl⟩ : ∃ f : Nat, z = f := ⟨z.toNat, by omega⟩
      simp only [Int.toNat_natCast, hX] at hp
      injection hp with e1 hp; injection hp with e2 e3
      subst e1 e2 e3
      exact rput_in w g p cur v l x base A cap B f _ l.length X _ _ hrow hv hob hvg hx hB hBg hbase rfl hX hl hX12 (by omega) rfl rfl rfl
/-- behind the document's Put -/
theorem QF.rput {g p : Nat} {cur : Array Value} {u u' : Value} (h : QF w0 w q r xs O) (R : RPut w w' g p cur u u') (hg : O g) (hu : ∀ k, u.ownBlock = some k → O k) (ho : ∀ k, O' k → O k ∨ (w.heap.size ≤ k ∧ k < w'.heap.size)) : QF w0 w' q r xs O' := by
  refine ⟨h.qm.same fun k hk => R.block k (h.qm.lt hk) (fun e => (h.qb k hk).2 (e ▸ hg)) (fun e => (h.qb k hk).2 (hu k e)), ?_, fun k hk => ⟨(h.qb k hk).1, fun e => (ho k e).elim (h.qb k hk).2 (fun h6 => by have := h.qm.lt hk; omega)⟩, fun k hk => (ho k hk).elim (fun h6 => ⟨(h.ob k h6).1, Nat.lt_of_lt_of_le (h.ob k h6).2 R.size⟩) (fun h6 => ⟨Nat.le_trans h.be.size h6.1, h6.2⟩)⟩
  refine h.be.trans ⟨R.os, R.tape, R.output, R.size, fun k hk => R.block k (Nat.lt_of_lt_of_le hk h.be.size) (fun e => ?_) (fun e => ?_)⟩
  · have := (h.ob g hg).1; omega
  · have := (h.ob k (hu k e)).1; omega
end

/-! ### the law's operation -/
abbrev opV (k p f : Int) (A : Option Addr) (n c : Nat) : Value := .agg #[.int .i64 k, .int .i64 p, .int .i64 f, .slice A n c]
abbrev opO (k p f : Int) (A : Option Addr) (n c : Nat) : Obj := .cells #[.int .i64 k, .int .i64 p, .int .i64 f, .slice A n c] 34
def OpM (w : World) (P : Nat) (k p f : Int) (A : Option Addr) (n c : Nat) : Prop := w.heap[P]? = some (opO k p f A n c)
theorem OpM.c {w : World} {P : Nat} {k p f : Int} {A : Option Addr} {n cp : Nat} (h : OpM w P k p f A n cp) : w.cell? ⟨P, 0, none⟩ = some (.int .i64 k) ∧ w.cell? ⟨P, 1, none⟩ = some (.int .i64 p) ∧ w.cell? ⟨P, 2, none⟩ = some (.int .i64 f) ∧ w.cell? ⟨P, 3, none⟩ = some (.slice A n cp) := by
  refine ⟨?_, ?_, ?_, ?_⟩ <;> (rw [cell_of_row _ _ _ _ _ _ h]; rfl)
theorem two_nats (z : Int) (n : Nat) (h : ¬ z < 0) (h2 : ¬ (n : Int) ≤ z) : ∃ j : Nat, z = j ∧ j < n := ⟨z.toNat, by omega, by omega⟩
set_option maxHeartbeats 4000000 in
theorem do_out (w : World) (q r : Nat) (xs : List Ln) (h : QM w q r xs) (n : Nat) (hn : xs.length = n) (k p f : Int) (A0 : Option Addr) (cap0 : Nat) (A : Option Addr) (l : List UInt8) (N cap : Nat) (hN : l.length = N) (hc : N ≤ cap) (hm : cap ≤ maxLen) (hp : p < 0 ∨ (n : Int) ≤ p) :
    Calls Try.prog 12 #[pB q, .slice A0 n cap0, opV k p f A N cap] w fun e w' => e = .returned (.bool true) ∧ Below w.heap.size w w' := by
  obtain ⟨Y, hY⟩ : ∃ Y, (l.take 12).length = Y := ⟨_, rfl⟩
  obtain ⟨W1, hW1⟩ : ∃ W1, W1 = w.alloc (opO k p f A Y cap) := ⟨_, rfl⟩
  have hb : Below w.heap.size w W1 := by rw [hW1]; exact (Below.refl _ _).alloc (Nat.le_refl _) _
  have HS := Lib.hid (fun W => short_n A l N cap 12 W hN (by omega) hc hm Y hY 12 rfl)
  have HL := Lib.hid (line_out W1 q r xs (h.belows hb) n hn p (by omega))
  have HB := Lib.hid hb; have HW := Lib.hid hW1
  clear h hn hN hc hm hY hb hW1
  rcases hp with hp | hp
  · go_enter Try.func12, Try.ntmps12
    go_wp2_with (go_at_call 19; with_reducible refine (HS.out _).mono ?_; rintro e w4 ⟨rfl, rfl⟩)
    rw [← HW.out]
    (with_reducible refine HL.out.mono ?_)
    rintro e w5 ⟨rfl, rfl⟩
    go_wp2
    go_ret
    exact ⟨rfl, HB.out⟩
  · have hp0 : ¬ p < 0 := by omega
    go_enter Try.func12, Try.ntmps12
    go_wp2_with (go_at_call 19; with_reducible refine (HS.out _).mono ?_; rintro e w4 ⟨rfl, rfl⟩)
    rw [← HW.out]
    (with_reducible refine HL.out.mono ?_)
    rintro e w5 ⟨rfl, rfl⟩
    go_wp2
    go_ret
    exact ⟨rfl, HB.out⟩
theorem putP_len {l x l' : List UInt8} {z a e : Int} (h : putP l z x = (a, e, l')) : l'.length ≤ l.length + x.length := by
  unfold putP at h
  by_cases h1 : z < 0
  · rw [if_pos h1] at h
    injection h with e1 h; injection h with e2 e3
    rw [← e3]; omega
  · rw [if_neg h1] at h
    by_cases h2 : (l.length : Int) < z
    · rw [if_pos h2] at h
      injection h with e1 h; injection h with e2 e3
      rw [← e3]; omega
    · rw [if_neg h2] at h
      injection h with e1 h; injection h with e2 e3
      rw [← e3, List.length_append, List.length_take, List.length_drop]; omega
/-- no line is longer by more than twelve -/
def Grow (xs xs' : List Ln) : Prop := ∀ M, (∀ x ∈ xs, x.l.length ≤ M) → ∀ x ∈ xs', x.l.length ≤ M + 12
/-- what an operation leaves of both -/
def Done (w0 w' : World) (q r n : Nat) (v : Value) (xs : List Ln) : Prop := ∃ xs' ms', QF w0 w' q r xs' (LB v ms') ∧ LR w' w0.heap.size v ms' ∧ xs'.length = n ∧ ms'.map Rl.l = xs'.map Ln.l ∧ Grow xs xs'
set_option maxHeartbeats 4000000 in
theorem do_in (w0 w : World) (q r : Nat) (xs : List Ln) (g n c0 : Nat) (ms : List Rl) (F : QF w0 w q r xs (LB (.slice (some ⟨g, 0, none⟩) n c0) ms)) (Lr : LR w w0.heap.size (.slice (some ⟨g, 0, none⟩) n c0) ms) (hn : xs.length = n) (hms : ms.map Rl.l = xs.map Ln.l) (hn8 : n ≤ 8)
    (k f : Int) (A : Option Addr) (l : List UInt8) (N cap : Nat) (hN : l.length = N) (hc : N ≤ cap) (hm : cap ≤ maxLen) (hr : RB w0 w0.heap.size A l) (j : Nat) (hj : j < n) :
    Calls Try.prog 12 #[pB q, .slice (some ⟨g, 0, none⟩) n c0, opV k j f A N cap] w fun e w' => e = .returned (.bool true) ∧ Done w0 w' q r n (.slice (some ⟨g, 0, none⟩) n c0) xs := by
  obtain ⟨x, hx⟩ : ∃ x, l.take 12 = x := ⟨_, rfl⟩
  obtain ⟨Y, hY⟩ : ∃ Y, x.length = Y := ⟨_, rfl⟩
  obtain ⟨hY12, hYc⟩ : Y ≤ 12 ∧ Y ≤ cap := by rw [← hx, List.length_take] at hY; omega
  have HS := Lib.hid (fun W => short_n A l N cap 12 W hN (by omega) hc hm Y (by rw [hx, hY]) 12 rfl)
  have hrx : RB w0 w0.heap.size A x := by rw [← hx]; exact hr.take 12
  obtain ⟨⟨b, lj⟩, hxj⟩ : ∃ y, xs[j]? = some y := ⟨_, List.getElem?_eq_getElem (by omega)⟩
  have hmn : ms.length = n := by have := congrArg List.length hms; rw [List.length_map, List.length_map] at this; omega
  obtain ⟨⟨u, lm⟩, hmj⟩ : ∃ y, ms[j]? = some y := ⟨_, List.getElem?_eq_getElem (by omega)⟩
  obtain rfl : lm = lj := by
    have h1 : (ms.map Rl.l)[j]? = (xs.map Ln.l)[j]? := by rw [hms]
    rw [List.getElem?_map, List.getElem?_map, hxj, hmj] at h1
    exact Option.some.inj h1
  obtain ⟨L, hL⟩ : ∃ L, lm.length = L := ⟨_, rfl⟩
  have hL1 : L ≤ 1000 := by rw [← hL]; exact (F.qm.line j _ hxj).2
  obtain ⟨g', cap', cur, hv', -, -, hcur, hcv⟩ := Lr.form (by omega) n hmn
  obtain rfl : g' = g := by injection hv' with e _ _; injection e with e; injection e with e; exact e.symm
  obtain ⟨W1, hW1⟩ : ∃ W1, W1 = w.alloc (opO k j f A Y cap) := ⟨_, rfl⟩
  have b1 : Below w.heap.size w W1 := by rw [hW1]; exact (Below.refl _ _).alloc (Nat.le_refl _) _
  have s1 : W1.heap.size = w.heap.size + 1 := by rw [hW1]; simp
  have M1 : OpM W1 w.heap.size k j f A Y cap := by rw [hW1]; exact heap_alloc_new w _
  obtain ⟨V, hV⟩ : ∃ V, V = Value.slice (some ⟨g', 0, none⟩) n c0 := ⟨_, rfl⟩
  have F1 : QF w0 W1 q r xs (fun i => LB V ms i ∨ i = w.heap.size) := by
    rw [hV]
    exact F.add b1 fun i hi => hi.imp id fun e => ⟨by omega, by omega⟩
  have L1 := Lr.belows b1
  obtain ⟨A0, cu, qc, hu, -⟩ := L1.line_at j ⟨u, lm⟩ hmj L hL
  obtain ⟨z, hz⟩ : ∃ z : Int, z = if k = 0 then (L : Int) else f := ⟨_, rfl⟩
  obtain ⟨⟨a, e, l'⟩, hp⟩ : ∃ t, putP lm z x = t := ⟨_, rfl⟩
  have LN := Lib.hid (line_in W1.drew q r xs F1.drew.qm j j rfl _ hxj)
  have hgrow : Grow xs (xs.set j ⟨b, l'⟩) := fun M hM y hy => by
    rcases mem_set xs j _ hxj l' hy with rfl | ⟨i, _, hi⟩
    · have h1 := putP_len hp
      have h2 := hM _ (List.mem_of_getElem? hxj)
      rw [hY] at h1
      show l'.length ≤ M + 12
      have h3 : lm.length ≤ M := h2
      omega
    · have := hM y (List.mem_of_getElem? hi); omega
  have HP := Lib.hid (qf_put F1.drew j b lm x hxj z A cap w0.heap.size Y hY (hrx.below (F1.drew).be) hYc hm a e l' hp)
  have q1 : W1.drew.cell? ⟨w.heap.size, 1, none⟩ = some (.int .i64 j) := M1.c.2.1
  have q3 : W1.drew.cell? ⟨w.heap.size, 3, none⟩ = some (.slice A Y cap) := M1.c.2.2.2
  have hjn : (j : Int) < (n : Int) := by omega
  -- behind the program's Put
  have H6 : Hid (∀ w6 : World, QF w0 w6 q r (xs.set j ⟨b, l'⟩) (fun i => LB V ms i ∨ i = w.heap.size) → Same (fun i => LB V ms i ∨ i = w.heap.size) W1.drew w6 →
      w6.drew.cell? ⟨w.heap.size, 1, none⟩ = some (.int .i64 j) ∧ w6.drew.cell? ⟨w.heap.size, 3, none⟩ = some (.slice A Y cap) ∧
      Calls Try.prog 24 #[.pointer (some ⟨g', j, none⟩), .int .i64 z, .slice A Y cap] w6.drew fun en w' => en = .returned (.tuple #[.int .i64 a, .int .i64 e]) ∧ Done w0 w' q r n V xs) := by
    intro w6 F6 S6
    have M6 : OpM w6 w.heap.size k j f A Y cap := (S6 _ (.inr rfl)).trans M1
    have L6 : LR w6 w0.heap.size (.slice (some ⟨g', 0, none⟩) n c0) ms := L1.same fun i hi => by
      rw [← hV] at hi
      exact S6 i (.inl hi)
    have r6 : w6.heap[g']? = some (lineO cur) := by
      have h1 := S6 g' (.inl (by rw [hV]; exact .inl rfl))
      exact h1.trans ((b1.block g' (Lr.lt (.inl rfl)).2).trans hcur)
    have hml := L6.line ⟨u, lm⟩ (List.mem_of_getElem? hmj)
    have hcj : cur[j]? = some u := by
      have := hcv j (by omega)
      rw [this, (List.getElem?_eq_some_iff.1 hmj).2]
    refine ⟨M6.c.2.1, M6.c.2.2.2, (rput_any w6.drew g' j cur u lm x w0.heap.size z A cap w0.heap.size Y r6 hcj hml.1 (fun e => hml.2 g' e rfl) (hrx.below F6.drew.be) (Nat.le_refl _) (Lr.lt (.inl rfl)).1 F6.be.size hY (by omega) (by omega) a e l' hp).mono ?_⟩
    rintro en w7 ⟨rfl, v', R, o7⟩
    have hg : (fun i => LB V ms i ∨ i = w.heap.size) g' := .inl (by rw [hV]; exact .inl rfl)
    have hu7 : ∀ i, u.ownBlock = some i → (fun i => LB V ms i ∨ i = w.heap.size) i := fun i hi => .inl (.inr ⟨⟨u, lm⟩, List.mem_of_getElem? hmj, hi⟩)
    have L7 : LR w7 w0.heap.size (.slice (some ⟨g', 0, none⟩) n c0) (ms.set j ⟨v', l'⟩) := LR.put (w := w6.drew) (L6.same fun _ _ => rfl) r6 j ⟨u, lm⟩ hmj v' l' R o7
    refine ⟨rfl, xs.set j ⟨b, l'⟩, ms.set j ⟨v', l'⟩, F6.drew.rput R hg hu7 fun i hi => ?_, by rw [hV]; exact L7, by rw [List.length_set]; exact hn, ?_, ?_⟩
    · rw [hV] at hi
      rcases LB.put hmj R hi with h2 | h2
      · exact .inl (.inl (by rw [hV]; exact h2))
      · exact .inr ⟨h2, (L7.lt hi).2⟩
    · rw [List.map_set, List.map_set, hms]
    · exact hgrow
  have HW := Lib.hid hW1
  have HV := Lib.hid hV
  by_cases hk : k = 0
  · obtain rfl : z = (L : Int) := by rw [hz, if_pos hk]
    rw [hW1] at qc
    clear F Lr hn hms hN hc hm hr hx hY hrx hxj hmn hmj hL hcur hcv b1 s1 M1 F1 L1 hu hp hz hv' hW1 hV
    subst hk
    go_enter Try.func12, Try.ntmps12
    go_wp2_with (go_at_call 19; with_reducible refine (HS.out _).mono ?_; rintro e w4 ⟨rfl, rfl⟩)
    rw [← HW.out]
    clear qc
    go_region_with (first
      | (go_at_call 20; with_reducible refine LN.out.mono ?_; rintro e w5 ⟨rfl, rfl⟩)
      | (go_at_call 21; with_reducible refine HP.out.mono ?_; rintro e w6 ⟨rfl, F6, S6⟩; obtain ⟨x1, x3, hrp⟩ := H6.out w6 F6 S6; have HRP := Lib.hid hrp; clear F6 S6 hrp))
    all_goals
      clear q1 q3
      go_wp2_with fail
      go_region_with (go_at_call 24; with_reducible refine HRP.out.mono ?_; rintro e w7 ⟨rfl, D⟩; have HD := Lib.hid D; clear D)
    all_goals
      go_wp2
      go_ret
      exact ⟨by first | rfl | simp, by rw [← HV.out]; exact HD.out⟩
  · obtain rfl : z = f := by rw [hz, if_neg hk]
    have hk' : (k == 0) = false := by simpa using hk
    clear F Lr hn hms hN hc hm hr hx hY hrx hxj hmn hmj hL hcur hcv b1 s1 M1 F1 L1 hu hp hz hv' hW1 hV hk qc
    go_enter Try.func12, Try.ntmps12
    go_wp2_with (go_at_call 19; with_reducible refine (HS.out _).mono ?_; rintro e w4 ⟨rfl, rfl⟩)
    rw [← HW.out]
    go_region_with (first
      | (go_at_call 20; with_reducible refine LN.out.mono ?_; rintro e w5 ⟨rfl, rfl⟩)
      | (go_at_call 21; with_reducible refine HP.out.mono ?_; rintro e w6 ⟨rfl, F6, S6⟩; obtain ⟨x1, x3, hrp⟩ := H6.out w6 F6 S6; have HRP := Lib.hid hrp; clear F6 S6 hrp))
    all_goals
      clear q1 q3
      go_wp2_with fail
      go_region_with (go_at_call 24; with_reducible refine HRP.out.mono ?_; rintro e w7 ⟨rfl, D⟩; have HD := Lib.hid D; clear D)
    all_goals
      go_wp2
      go_ret
      exact ⟨by first | rfl | simp, by rw [← HV.out]; exact HD.out⟩
end Go.Proofs.Ytomiligjcpmnjaa
