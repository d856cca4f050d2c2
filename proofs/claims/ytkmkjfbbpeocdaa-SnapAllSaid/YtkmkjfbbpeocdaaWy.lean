/- WALK: SnapTree. -/
import Derived.Test.YtkmkjfbbpeocdaaWx
namespace Go.Proofs.Ytkmkjfbbpeocdaa
set_option maxRecDepth 100000
open Go.RowKit Go.Maps
set_option linter.unusedVariables false
set_option linter.unusedSimpArgs false

def kN (z : Int) : Nat := ((z.tmod 32 + 32).tmod 32).toNat
theorem kN_at (z : Int) (h : -9223372036854775808 ≤ z ∧ z ≤ 9223372036854775807) : kN z < 32 ∧ (z.tmod 32 + 32).tmod 32 = (kN z : Int) ∧ -32 < z.tmod 32 ∧ z.tmod 32 < 32 := by
  obtain ⟨n, h1, h2, h3, h4⟩ := mod32 z h.1 h.2
  have : kN z = n := by unfold kN; rw [h2]; simp
  rw [this]; exact ⟨h1, h2, h3, h4⟩
/-- forks that share all -/
def QF (i : Nat) (st : List Int) (l : List Sh) (L : List Pc) : Prop := ∃ f, L.length = i ∧ (∀ (j : Nat) (c : Pc), L[j]? = some c → c.r = 1 ∧ c.on = f) ∧ gmL l f = st ∧ usedN l = 4 ∧ l.length = 80
/-- what a picture of the tree shows when those below m are written -/
def tg (st : List Int) (kc : Nat → Nat) (m j : Nat) : List Int := if 1 ≤ j ∧ j < m then st.set (kc j) (1000 + (j : Int)) else st
/-- forks of which those below m are written -/
def QS (n m : Nat) (st : List Int) (kc : Nat → Nat) (l : List Sh) (L : List Pc) : Prop := ∃ f, L.length = n ∧ 1 ≤ m ∧ m ≤ n ∧ (∀ (j : Nat) (c : Pc), L[j]? = some c → c.r = 1 ∧ gmL l c.on = tg st kc m j ∧ (¬ (1 ≤ j ∧ j < m) → c.on = f)) ∧ usedN l = 4 + (m - 1) ∧ l.length = 80
theorem qt_make (st : List Int) (hst : st.length = 32) (l : List Sh) (L : List Pc) (I : INV l L) (h : Q0 80 l L) : L.length ≤ 900 ∧ usedN l + 4 ≤ l.length ∧ (1 : Int) = L.length + 1 ∧ ∀ l' f b, MadeN l l' st f 4 → QF 1 st l' (L ++ [⟨b, 1, f⟩]) := by
  obtain ⟨rfl, h2, h3⟩ := h
  refine ⟨by simp, by omega, rfl, fun l' f b Md => ⟨f, rfl, fun j c hj => ?_, Md.gm hst, by rw [Md.used, h2], Md.len.trans h3⟩⟩
  have := (List.getElem?_eq_some_iff.1 hj).1
  simp at this
  subst this
  obtain rfl := Option.some.inj hj
  exact ⟨rfl, rfl⟩
theorem qt_fork {i : Nat} (hi : 1 ≤ i) (hi8 : i ≤ 8) {st : List Int} (x y : Int) (k : Nat) (hk : k < i) (hx : x = k + 1) (hy : y = i + 1) (l : List Sh) (L : List Pc) (I : INV l L) (h : QF i st l L) :
    L.length ≤ 900 ∧ y = L.length + 1 ∧ ∃ (k : Nat) (c : Pc), x = k + 1 ∧ L[k]? = some c ∧ 0 < c.r ∧ ∀ l' b, TurnN 1 l l' c.on 4 → QF (i + 1) st l' (L ++ [⟨b, 1, c.on⟩]) := by
  obtain ⟨f, h1, h2, h3, h4, h5⟩ := h
  obtain ⟨c, hc⟩ : ∃ c, L[k]? = some c := ⟨_, List.getElem?_eq_getElem (by omega)⟩
  obtain ⟨hr, hon⟩ := h2 k c hc
  refine ⟨by omega, by omega, k, c, hx, hc, by omega, fun l' b T => ⟨f, by simp [h1], fun j d hj => ?_, (T.gm f).trans h3, (fork_used I hc (by omega) T).trans h4, T.len.trans h5⟩⟩
  rcases get_snoc hj with h6 | ⟨_, rfl⟩
  · exact h2 j d h6
  · exact ⟨rfl, hon⟩
theorem qt_start {n : Nat} (hn : 1 ≤ n) {st : List Int} {kc : Nat → Nat} (l : List Sh) (L : List Pc) (h : QF n st l L) : QS n 1 st kc l L := by
  obtain ⟨f, h1, h2, h3, h4, h5⟩ := h
  refine ⟨f, h1, by omega, hn, fun j c hj => ?_, by omega, h5⟩
  obtain ⟨h6, h7⟩ := h2 j c hj
  refine ⟨h6, ?_, fun _ => h7⟩
  unfold tg
  rw [if_neg (by omega), h7, h3]
theorem qt_set {n m : Nat} (hm1 : 1 ≤ m) (hm : m < n) (hn8 : n ≤ 8) {st : List Int} {kc : Nat → Nat} (hk : kc m < 32) (x : Int) (hx : x = m + 1) (v : Int) (hv : v = 1000 + (m : Int)) (l : List Sh) (L : List Pc) (I : INV l L) (h : QS n m st kc l L) :
    L.length ≤ 900 ∧ ∃ (k : Nat) (c : Pc), x = k + 1 ∧ L[k]? = some c ∧ 0 < c.r ∧ (1 < (pg l (c.on (kc m / 8))).r → usedN l < l.length) ∧ ∀ l' f, SetR l l' L k c f (kc m) v → QS n (m + 1) st kc l' (L.set k ⟨c.b, c.r, f⟩) := by
  subst hv
  obtain ⟨f, h1, h2, h3, h4, h5, h6⟩ := h
  obtain ⟨c, hc⟩ : ∃ c, L[m]? = some c := ⟨_, List.getElem?_eq_getElem (by omega)⟩
  obtain ⟨c0, hc0⟩ : ∃ c, L[0]? = some c := ⟨_, List.getElem?_eq_getElem (by omega)⟩
  obtain ⟨hr, hg, hon⟩ := h4 m c hc
  obtain ⟨hr0, hg0, hon0⟩ := h4 0 c0 hc0
  have hon1 := hon (by omega)
  have hon01 := hon0 (by omega)
  have hsh : 1 < (pg l (c.on (kc m / 8))).r := by
    have h7 := cnt_ge2 L 0 m c0 c (c.on (kc m / 8)) hc0 hc (by omega)
    rw [← I.cnt, show pcN c0 (c.on (kc m / 8)) = hasN c0.on (c.on (kc m / 8)) 4 from if_pos (by omega), show pcN c (c.on (kc m / 8)) = hasN c.on (c.on (kc m / 8)) 4 from if_pos (by omega)] at h7
    have h8 := (hasN_pos c0.on (c.on (kc m / 8)) 4).2 ⟨kc m / 8, by omega, by rw [hon01, hon1]⟩
    have h9 := (hasN_pos c.on (c.on (kc m / 8)) 4).2 ⟨kc m / 8, by omega, rfl⟩
    omega
  refine ⟨by omega, m, c, hx, hc, by omega, fun _ => by omega, fun l' f' R => ⟨f, by rw [List.length_set]; exact h1, by omega, by omega, fun j d hj => ?_, ?_, R.len.trans h6⟩⟩
  · rcases get_set hc hj with ⟨rfl, rfl⟩ | ⟨hn, hj2⟩
    · refine ⟨hr, ?_, fun hx => absurd ⟨hm1, by omega⟩ hx⟩
      show gmL l' f' = _
      rw [R.gm, hg]
      unfold tg
      rw [if_neg (by omega), if_pos (by omega)]
    · obtain ⟨a1, a2, a3⟩ := h4 j d hj2
      refine ⟨a1, ?_, fun hx => a3 (fun hy => hx ⟨hy.1, by omega⟩)⟩
      rw [R.oth j d hn hj2 (by omega), a2]
      unfold tg
      by_cases e : 1 ≤ j ∧ j < m
      · rw [if_pos e, if_pos (by omega)]
      · rw [if_neg e, if_neg (by omega)]
  · have := R.used
    rw [if_pos hsh] at this
    omega
theorem qt_state {n m : Nat} {st : List Int} {kc : Nat → Nat} (i : Nat) (hi : i < n) (x : Int) (hx : x = i + 1) (l : List Sh) (L : List Pc) (h : QS n m st kc l L) : ∃ (k : Nat) (c : Pc), x = k + 1 ∧ L[k]? = some c ∧ 0 < c.r ∧ gmL l c.on = tg st kc m i := by
  obtain ⟨f, h1, h2, h3, h4, h5, h6⟩ := h
  obtain ⟨c, hc⟩ : ∃ c, L[i]? = some c := ⟨_, List.getElem?_eq_getElem (by omega)⟩
  obtain ⟨hr, hg, hon⟩ := h4 i c hc
  exact ⟨i, c, hx, hc, by omega, hg⟩
theorem qt_usedF {i : Nat} {st : List Int} (l : List Sh) (L : List Pc) (I : INV l L) (h : QF i st l L) : usedN l = 4 := by
  obtain ⟨f, h1, h2, h3, h4, h5⟩ := h
  exact h4
theorem qt_used {n m : Nat} {st : List Int} {kc : Nat → Nat} (l : List Sh) (L : List Pc) (I : INV l L) (h : QS n m st kc l L) : usedN l = 4 + (m - 1) := by
  obtain ⟨f, h1, h2, h3, h4, h5, h6⟩ := h
  exact h5
/-- the numbers 1 .. n -/
def idL (n : Nat) : List Value := (List.range n).map fun k : Nat => .int .i64 ((k : Int) + 1)
theorem idL_snoc (n : Nat) : idL n ++ [.int .i64 ((n : Int) + 1)] = idL (n + 1) := by unfold idL; rw [List.range_succ, List.map_append]; rfl
theorem idL_at (n k : Nat) (h : k < n) : (idL n)[k]? = some (.int .i64 ((k : Int) + 1)) := by unfold idL; simp [h]
theorem infoSnap : (Try.prog.info? 40).map (fun i => (i.zero, i.size, i.bytes)) = some (some (.int .i64 0), 1, 8) := by kernel_rfl
theorem Frm.imp {w0 w : World} {S P A M : Nat} {Q Q' : List Sh → List Pc → Prop} {O : List (Nat × Obj)} (h : Frm w0 w S P A M Q O) (hq : ∀ l L, Q l L → Q' l L) : Frm w0 w S P A M Q' O := by
  obtain ⟨l, L, h1, h2, h3⟩ := h
  exact ⟨l, L, h1, hq l L h2, h3⟩
/-- the row of the pictures' numbers beside the store -/
def TrF (w0 w : World) (S P A M : Nat) (Q : List Sh → List Pc → Prop) (n : Nat) (v : Value) (O : List (Nat × Obj)) : Prop := ∃ b o, RowO 40 1 v n (idL n) b o ∧ Frm w0 w S P A M Q ((b, o) :: O)
theorem lit_row {w0 w : World} {S P A M : Nat} {Q : List Sh → List Pc → Prop} {O : List (Nat × Obj)} (h : Frm w0 w S P A M Q O) : TrF w0 (w.alloc (.cells #[.int .i64 1] 40)) S P A M Q 1 (.slice (some ⟨w.heap.size, 0, none⟩) 1 1) O :=
  ⟨w.heap.size, _, ⟨rfl, 1, #[.int .i64 1], rfl, rfl, Nat.le_refl _, by unfold maxLen; omega, rfl, rfl⟩, h.new ((Below.refl _ w).alloc (Nat.le_refl _) _) w.heap.size _ (Nat.le_refl _) (heap_alloc_last w _)⟩
theorem rng9 {j : Int} (h0 : 0 ≤ j) (h8 : j ≤ 8) : rng (j + 1) := ⟨by omega, by omega⟩
theorem ga_at {w0 w : World} {S P A M : Nat} {Q : List Sh → List Pc → Prop} {O : List (Nat × Obj)} {x : Nat} {t : TypeId} {g : List Int} (h : Frm w0 w S P A M Q ((x, gaO t g) :: O)) (n : Nat) (hg : g.length = 32) (hn : n < 32) : ∃ old, w.cell? ⟨x, n, none⟩ = some (.int .i32 old) :=
  ⟨_, (h.ga (m0 _ _)).cell n (by omega)⟩
theorem snap_news (w : World) (y : Int) : ∀ (j : Nat) (u : Value), [Value.int .i64 y][j]? = some u → (w.alloc (.cells #[.int .i64 y] 40)).cell? ((⟨w.heap.size, 0, none⟩ : Addr).add j) = some u := fun j u hu => by
  rw [Addr.add_lit, Nat.zero_add, cell_of_row _ _ _ _ _ _ (heap_alloc_last w _)]
  simpa using hu
theorem snap_one (y : Int) : ∀ u ∈ [Value.int .i64 y], u.oneCell' = true := fun u hu => by simp at hu; subst hu; rfl
set_option maxHeartbeats 8000000 in
theorem tree_law (A0 : Option Addr) (l : List Int) (cap : Nat) (nn : Int) (A1 : Option Addr) (cs : List Int) (capc : Nat) (w : World)
    (hr : RG w w.heap.size A0 l) (hc : l.length ≤ cap) (hm : cap ≤ maxLen) (hn0 : -9223372036854775808 ≤ nn) (hn1 : nn ≤ 9223372036854775807) (hrc : RI w w.heap.size A1 cs) (hcc : cs.length ≤ capc) (hmc : capc ≤ maxLen) (hcz : ∀ z ∈ cs, -9223372036854775808 ≤ z ∧ z ≤ 9223372036854775807) :
    Calls Try.prog 8 #[.slice A0 l.length cap, .int .i64 nn, .slice A1 cs.length capc] w fun e w' => e = .returned (.bool true) ∧ Below w.heap.size w w' := by
  have HBg := Lib.hid (begun11_any w)
  by_cases hlo : nn < 1
  · clear hr hrc hcz
    go_enter Try.func8, Try.ntmps8
    go_wp2_with (go_at_call 11; with_reducible refine HBg.out.mono ?_; rintro e wa ⟨rfl, hb⟩)
    go_ret
    exact ⟨rfl, hb⟩
  by_cases hhi : nn > 8
  · clear hr hrc hcz
    go_enter Try.func8, Try.ntmps8
    go_wp2_with (go_at_call 11; with_reducible refine HBg.out.mono ?_; rintro e wa ⟨rfl, hb⟩)
    go_ret
    exact ⟨rfl, hb⟩
  obtain ⟨n, hnn⟩ : ∃ n : Nat, nn = n := ⟨nn.toNat, by omega⟩
  subst hnn
  have hz := zeroState
  have hzg := zeroGame11
  have hgd := guardGame11
  have HNew := Lib.hid (fun W => f_new 20 (by omega) 20 rfl W 80 rfl)
  have HRC := Lib.hid hrc
  have HCZ := Lib.hid hcz
  obtain ⟨st, hst⟩ : ∃ st, st = ofL l := ⟨_, rfl⟩
  have HOf := Lib.hid (fun (W : World) (hb : Below w.heap.size w W) => hst ▸ of_any A0 l cap W ((hr.below hb).more hb.size) hc hm)
  have hs32 : st.length = 32 := by rw [hst]; exact ofL_length l
  have HS32 := Lib.hid hs32
  have z32 := Lib.hid (zG_length 32)
  clear hr hc hm hrc hcz hst hs32
  go_enter Try.func8, Try.ntmps8
  go_wp2_with (first
    | (go_at_call 11; with_reducible refine HBg.out.mono ?_; rintro e wa ⟨rfl, hb⟩; have HB0 := Lib.hid hb; clear hb)
    | (go_at_call 12; with_reducible refine (HNew.out _).mono ?_; rintro e w1 ⟨S, P, A, M, rfl, E⟩; have HE := Lib.hid E; clear E; have HB1 := Lib.hid (HB0.out.trans (HE.out.be.mono HB0.out.size)))
    | (go_at_call 15; with_reducible refine (HOf.out _ HB1.out).mono ?_; rintro e w2 ⟨rfl, hb⟩; replace HE := Lib.hid (HE.out.belows hb); clear hb)
    | (with_reducible refine wpList_store_g rfl 38 (.tmp 9) (.tmp 34) rfl _ (by with_unfolding_all rfl) 38 (zG 32) st (GA.new _ _ _) (by with_unfolding_all rfl) (by rw [HS32.out, z32.out]) (by rw [HS32.out]; exact infoState) ?_; intro w3 G3 S3 R3; have HF := HE.out.made G3 R3; clear G3 S3 R3)
    | (with_reducible refine wpList_load_g rfl 38 (.tmp 9) rfl w2.heap.size (by with_unfolding_all rfl) 38 st (HF.out.ga (m0 _ _)) Try.underlying38 (by rw [HS32.out]; exact infoState) ?_)
    | (go_at_call 16; with_reducible refine (f_make HF.out st HS32.out 1 (qt_make st HS32.out)).mono ?_; rintro e w4 ⟨rfl, E⟩; have HT := Lib.hid (lit_row E); clear E HF))
  have HBw := Lib.hid HB0.out
  obtain ⟨a, ha⟩ : ∃ a, a = w2.heap.size := ⟨_, rfl⟩
  rw [← ha] at HT ⊢
  clear ha HB1 HE
  go_loopw [12, 13] (fun v i wr => ∃ (k : Nat) (p : Option Addr) (cp : Nat), i = .int .i64 k ∧ 1 ≤ k ∧ k ≤ n ∧ v = .slice p k cp ∧ Hid (TrF wa wr S P A M (QF k st) k v [(a, gaO 38 st)])) (fun _ i _ => 9 - (numI i).toNat)
  case atStart => exact ⟨1, _, _, rfl, by omega, by omega, rfl, HT⟩
  case round =>
    obtain ⟨k, p, cp, rfl, hk1, hk, rfl, hT⟩ := hrel
    by_cases hlt : k < n
    · have hkc : (k : Int) < (n : Int) := by omega
      obtain ⟨b, o, hR, hF⟩ := hT.out
      have HR := Lib.hid hR
      have HF := Lib.hid hF
      obtain ⟨_, cap1, cur1, hv, _⟩ := hR
      obtain ⟨rfl, _, rfl⟩ : p = some ⟨b, 0, none⟩ ∧ k = k ∧ cp = cap1 := by injection hv with e1 e2 e3; exact ⟨e1, rfl, e3⟩
      have q1 := HR.out.cell (HF.out.own (m0 _ _)) (k / 2) _ (idL_at k (k / 2) (by omega))
      obtain ⟨h2, hh2⟩ : ∃ h2 : Nat, h2 = k / 2 := ⟨_, rfl⟩
      rw [← hh2] at q1
      have d1 : (k : Int).tdiv 2 = (h2 : Int) := by rw [Int.tdiv_eq_ediv_of_nonneg (by omega)]; omega
      have hlt2 : (h2 : Int) < (k : Int) := by omega
      have HFk := Lib.hid (f_fork HF.out ((h2 : Int) + 1) ((k : Int) + 1) (qt_fork hk1 (by omega) _ _ h2 (by omega) rfl rfl))
      clear hv hF hh2 hT
      have hn8 : n ≤ 8 := by omega
      go_wp2_with (first
        | (go_at_call 17; with_reducible refine HFk.out.mono ?_; rintro e w5 ⟨rfl, E⟩; have HF5 := Lib.hid (E.belows ((Below.refl _ w5).alloc (Nat.le_refl _) (.cells #[.int .i64 ((k : Int) + 1)] 40))); clear E)
        | (at_builtin; refine wpList_append_fr rfl (.tmp 62) (.tmp 64) 55 rfl 40 (.int .i64 0) 1 8 Try.underlying55 infoSnap rfl (by omega) HF5.out rfl HR.out ⟨w5.heap.size, 0, none⟩ 1 1 [.int .i64 ((k : Int) + 1)] rfl rfl (snap_news w5 _) (snap_one _) (by unfold maxLen; omega) (by omega) (by omega) ?_; intro v' w6 b' o' hR6 hF6; have HR6 := Lib.hid hR6; have HF6 := Lib.hid hF6; clear hR6 hF6))
      obtain ⟨_, cap6, cur6, hv6, _⟩ := HR6.out
      go_roundw
      case rel => exact ⟨k + 1, some ⟨b', 0, none⟩, cap6, by go_num, by omega, by omega, hv6, by rw [Hid]; exact ⟨b', o', by rw [← idL_snoc]; exact HR6.out, HF6.out⟩⟩
      case measure => simp [numI]; omega
    · obtain rfl : k = n := by omega
      clear hlt
      obtain ⟨b, o, hR, hF⟩ := hT.out
      have HR := Lib.hid hR
      have HF := Lib.hid hF
      obtain ⟨_, cap1, cur1, hv, _⟩ := hR
      obtain ⟨rfl, _, rfl⟩ : p = some ⟨b, 0, none⟩ ∧ k = k ∧ cp = cap1 := by injection hv with e1 e2 e3; exact ⟨e1, rfl, e3⟩
      clear hv hF hT
      obtain ⟨kc, hkc⟩ : ∃ kc : Nat → Nat, kc = fun j => kN (cs.getD j 0) := ⟨_, rfl⟩
      have HKC : Hid (∀ j (h : j < cs.length), kc j = kN cs[j]) := fun j h => by rw [hkc]; simp [List.getD, h]
      clear hkc
      have hn8 : k ≤ 8 := by omega
      go_wp2_with (first
        | (go_at_call 21; with_reducible refine (f_room HF.out).mono ?_; rintro e w8 ⟨rfl, E⟩; have HF8 := Lib.hid E; clear E)
        | (go_at_call 22; with_reducible refine (f_used HF8.out 4 qt_usedF 4 rfl).mono ?_; rintro e w9 ⟨rfl, E⟩; have HF9 := Lib.hid (E.imp (qt_start (kc := kc) hk1)); clear E HF8))
      go_loopw [16, 17] (fun q i wr => ∃ m : Nat, i = .int .i64 m ∧ 1 ≤ m ∧ m ≤ k ∧ (m = 1 ∨ m ≤ cs.length) ∧ q = .int .i64 ((m : Int) - 1) ∧ Hid (Frm wa wr S P A M (QS k m st kc) [(b, o), (a, gaO 38 st)])) (fun _ i _ => 9 - (numI i).toNat)
      case atStart => exact ⟨1, rfl, by omega, by omega, .inl rfl, rfl, HF9⟩
      case round =>
        obtain ⟨m, rfl, hm1, hmn, hmc, rfl, hF2⟩ := hrel
        have HBr := Lib.hid (HBw.out.trans (hF2.out.be.mono HBw.out.size))
        by_cases hlt : m < k ∧ m < cs.length
        · obtain ⟨hlt, hlc⟩ := hlt
          have hmc1 : (m : Int) < (k : Int) := by omega
          have hmc2 : (m : Int) < (cs.length : Int) := by omega
          obtain ⟨bb, off, rfl, hbB, hcell⟩ := (HRC.out.below HBr.out) (by omega)
          have q1 := hcell m hlc
          have hzb := HCZ.out cs[m] (List.getElem_mem hlc)
          have hkm := HKC.out m hlc
          clear hcell
          generalize cs[m] = z at q1 hzb hkm
          obtain ⟨hk32, hk2, hk3, hk4⟩ := kN_at z hzb
          rw [← hkm] at hk32 hk2
          have q2 := HR.out.cell (hF2.out.own (m0 _ _)) m _ (idL_at k m hlt)
          have HSet := Lib.hid (f_set hF2.out ((m : Int) + 1) (kc m : Int) (1000 + (m : Int)) (kc m) rfl hk32 (qt_set hm1 hlt hn8 hk32 _ rfl _ rfl))
          generalize kc m = km at *
          have hkmc : (km : Int) < 32 := by omega
          have hm8 : (m : Int) ≤ 8 := by omega
          have hm0 : (0 : Int) ≤ (m : Int) := by omega
          clear hkm hzb hmc
          go_wp2_with (go_at_call 18; with_reducible refine HSet.out.mono ?_; rintro e w4 ⟨rfl, E⟩; have HF4 := Lib.hid E; clear E)
          go_roundw
          case rel => exact ⟨m + 1, by go_num, by omega, by omega, .inr (by omega), by rw [show ((m + 1 : Nat) : Int) - 1 = (m : Int) by omega], HF4⟩
          case measure => simp [numI]; omega
        · by_cases hmk : m < k
          · have hmk1 : (m : Int) < (k : Int) := by omega
            have hmk2 : ¬ (m : Int) < (cs.length : Int) := by omega
            have HQ : Hid (∀ (g : List Int), g.length = 32 → ∀ W, (binOp .neq 44 (.agg (gC g)) (.agg (gC g))).run Try.prog W = .ok (.bool false) W) := fun g hg W => by
              rw [run_neq_struct, equalIn_g 44 Try.underlying44 Try.underlying21 infoCell g g hg hg W]; simp [Result.andThen]
            have HM1 := Lib.hid hm1
            have HMn := Lib.hid hmn
            have HFm := Lib.hid hF2.out
            clear hmn hF2
            go_wp2_with fail
            go_loopw [19] (fun i wr => ∃ j : Nat, i = .int .i64 j ∧ j ≤ k ∧ Hid (Frm wa wr S P A M (QS k m st kc) [(b, o), (a, gaO 38 st)])) (fun i _ => 9 - (numI i).toNat)
            case atStart => exact ⟨0, rfl, by omega, HFm.out⟩
            case round =>
              obtain ⟨j, rfl, hjk, hF3⟩ := hrel
              have HBr := Lib.hid (HBw.out.trans (hF3.out.be.mono HBw.out.size))
              have HF3 := Lib.hid hF3.out
              clear hF3
              by_cases hjlt : j < k
              · have hjc : (j : Int) < (k : Int) := by omega
                have htl : (tg st kc m j).length = 32 := by unfold tg; split <;> simp [HS32.out]
                have HTL := Lib.hid htl
                have hneq := HQ.out (tg st kc m j) htl
                clear htl
                by_cases hw1 : 1 ≤ j ∧ j < cs.length
                · obtain ⟨hj1, hjl⟩ := hw1
                  have hj1c : (j : Int) ≥ 1 := by omega
                  have hjlc : (j : Int) < (cs.length : Int) := by omega
                  obtain ⟨bb, off, rfl, hbB, hcell⟩ := HRC.out (by omega)
                  have q0 := hcell j hjl
                  have hzb := HCZ.out cs[j] (List.getElem_mem hjl)
                  have hkm := HKC.out j hjl
                  clear hcell
                  generalize cs[j] = z at q0 hzb hkm
                  have HP := Lib.hid (fun (W : World) (hb : Below w.heap.size w W) => (hb.cell (p := ⟨bb, off + j, none⟩) hbB).trans q0)
                  obtain ⟨hk32, hk2, hk3, hk4⟩ := kN_at z hzb
                  rw [← hkm] at hk32 hk2
                  have HTg : Hid (tg st kc m j = st.set (kc j) (1000 + (j : Int))) := by rw [Hid]; unfold tg; rw [if_pos ⟨hj1, by omega⟩]
                  have HRow := Lib.hid (fun (W : World) (E : W.heap[b]? = some o) => HR.out.cell E j _ (idL_at k j hjlt))
                  obtain ⟨km, hkmd⟩ : ∃ km, km = kc j := ⟨_, rfl⟩
                  rw [← hkmd] at hk32 hk2 HTg
                  have hkmc : (km : Int) < 32 := by omega
                  have hj8 : (j : Int) ≤ 8 := by omega
                  have hj0 : (0 : Int) ≤ (j : Int) := by omega
                  have HK32 := Lib.hid hk32
                  clear hkm hzb hkmd q0
                  go_wp2_with (first
                    | (with_reducible refine wpList_load_g rfl 38 (.tmp 9) rfl a (by with_unfolding_all rfl) 38 st (HF3.out.ga (m1 _ _ _)) Try.underlying38 (by rw [HS32.out]; exact infoState) ?_)
                    | (with_reducible refine wpList_store_g rfl 44 (.tmp 20) (.tmp 106) rfl _ (by with_unfolding_all rfl) 44 (zG 32) st (GA.new _ _ _) (by with_unfolding_all rfl) (by rw [HS32.out, z32.out]) (by rw [HS32.out]; exact infoGame11) ?_; intro u1 G6 S6 R6; have HX1 := HF3.out.made G6 R6; clear G6 S6 R6; have q3 := HP.out u1 (HBw.out.trans (HX1.out.be.mono HBw.out.size)); obtain ⟨old, gc⟩ := ga_at HX1.out km HS32.out HK32.out; have gf := (HX1.out.ga (m0 _ _)).frozen km; have HX2 := HX1.out.cellset km (1000 + (j : Int)); have q4 := HRow.out _ (HX2.out.own (m1 _ _ _)))
                    | (go_at_call 19; with_reducible refine (f_state HX2.out ((j : Int) + 1) (tg st kc m j) (rng9 hj0 hj8) (qt_state j hjlt _ rfl)).mono ?_; rintro e u3 ⟨rfl, E⟩; have HX3 := Lib.hid E; clear E)
                    | (with_reducible refine wpList_store_g rfl 38 (.tmp 21) (.tmp 133) rfl _ (by with_unfolding_all rfl) 38 (zG 32) (tg st kc m j) (GA.new _ _ _) (by with_unfolding_all rfl) (by rw [HTL.out, z32.out]) (by rw [HTL.out]; exact infoState) ?_; intro u4 G6 S6 R6; have HX4 := HX3.out.made G6 R6; clear G6 S6 R6)
                    | (with_reducible refine wpList_load_gd (by with_unfolding_all rfl) 38 (.tmp 21) rfl u3.heap.size (by with_unfolding_all rfl) 38 (tg st kc m j) (HX4.out.ga (m0 _ _)) Try.underlying38 (by rw [HTL.out]; exact infoState) ?_)
                    | (with_reducible refine wpList_load_gd (by with_unfolding_all rfl) 44 (.tmp 20) rfl wr.heap.size (by with_unfolding_all rfl) 44 (tg st kc m j) (by rw [HTg.out]; exact HX4.out.ga (m1 _ _ _)) Try.underlying44 (by rw [HTL.out]; exact infoGame11) ?_))
                  go_roundw
                  case rel => exact ⟨j + 1, by go_num, by omega, HX4.out.less.less⟩
                  case measure => simp [numI]; omega
                · have HTg : Hid (tg st kc m j = st) := by rw [Hid]; unfold tg; rw [if_neg (by have := HM1.out; omega)]
                  have q4 := HR.out.cell (HF3.out.own (m0 _ _)) j _ (idL_at k j hjlt)
                  have HRow := Lib.hid (fun (W : World) (E : W.heap[b]? = some o) => HR.out.cell E j _ (idL_at k j hjlt))
                  have hj8 : (j : Int) ≤ 8 := by omega
                  have hj0 : (0 : Int) ≤ (j : Int) := by omega
                  by_cases hj1 : (j : Int) ≥ 1
                  · have hjlc : ¬ (j : Int) < (cs.length : Int) := by omega
                    clear hw1
                    go_wp2_with (first
                      | (with_reducible refine wpList_load_g rfl 38 (.tmp 9) rfl a (by with_unfolding_all rfl) 38 st (HF3.out.ga (m1 _ _ _)) Try.underlying38 (by rw [HS32.out]; exact infoState) ?_)
                      | (with_reducible refine wpList_store_g rfl 44 (.tmp 20) (.tmp 106) rfl _ (by with_unfolding_all rfl) 44 (zG 32) st (GA.new _ _ _) (by with_unfolding_all rfl) (by rw [HS32.out, z32.out]) (by rw [HS32.out]; exact infoGame11) ?_; intro u1 G6 S6 R6; have HX2 := HF3.out.made G6 R6; clear G6 S6 R6; have q5 := HRow.out _ (HX2.out.own (m1 _ _ _)))
                      | (go_at_call 19; with_reducible refine (f_state HX2.out ((j : Int) + 1) (tg st kc m j) (rng9 hj0 hj8) (qt_state j hjlt _ rfl)).mono ?_; rintro e u3 ⟨rfl, E⟩; have HX3 := Lib.hid E; clear E)
                      | (with_reducible refine wpList_store_g rfl 38 (.tmp 21) (.tmp 133) rfl _ (by with_unfolding_all rfl) 38 (zG 32) (tg st kc m j) (GA.new _ _ _) (by with_unfolding_all rfl) (by rw [HTL.out, z32.out]) (by rw [HTL.out]; exact infoState) ?_; intro u4 G6 S6 R6; have HX4 := HX3.out.made G6 R6; clear G6 S6 R6)
                      | (with_reducible refine wpList_load_gd (by with_unfolding_all rfl) 38 (.tmp 21) rfl u3.heap.size (by with_unfolding_all rfl) 38 (tg st kc m j) (HX4.out.ga (m0 _ _)) Try.underlying38 (by rw [HTL.out]; exact infoState) ?_)
                      | (with_reducible refine wpList_load_gd (by with_unfolding_all rfl) 44 (.tmp 20) rfl wr.heap.size (by with_unfolding_all rfl) 44 (tg st kc m j) (by rw [HTg.out]; exact HX4.out.ga (m1 _ _ _)) Try.underlying44 (by rw [HTL.out]; exact infoGame11) ?_))
                    go_roundw
                    case rel => exact ⟨j + 1, by go_num, by omega, HX4.out.less.less⟩
                    case measure => simp [numI]; omega
                  · clear hw1
                    go_wp2_with (first
                      | (with_reducible refine wpList_load_g rfl 38 (.tmp 9) rfl a (by with_unfolding_all rfl) 38 st (HF3.out.ga (m1 _ _ _)) Try.underlying38 (by rw [HS32.out]; exact infoState) ?_)
                      | (with_reducible refine wpList_store_g rfl 44 (.tmp 20) (.tmp 106) rfl _ (by with_unfolding_all rfl) 44 (zG 32) st (GA.new _ _ _) (by with_unfolding_all rfl) (by rw [HS32.out, z32.out]) (by rw [HS32.out]; exact infoGame11) ?_; intro u1 G6 S6 R6; have HX2 := HF3.out.made G6 R6; clear G6 S6 R6; have q5 := HRow.out _ (HX2.out.own (m1 _ _ _)))
                      | (go_at_call 19; with_reducible refine (f_state HX2.out ((j : Int) + 1) (tg st kc m j) (rng9 hj0 hj8) (qt_state j hjlt _ rfl)).mono ?_; rintro e u3 ⟨rfl, E⟩; have HX3 := Lib.hid E; clear E)
                      | (with_reducible refine wpList_store_g rfl 38 (.tmp 21) (.tmp 133) rfl _ (by with_unfolding_all rfl) 38 (zG 32) (tg st kc m j) (GA.new _ _ _) (by with_unfolding_all rfl) (by rw [HTL.out, z32.out]) (by rw [HTL.out]; exact infoState) ?_; intro u4 G6 S6 R6; have HX4 := HX3.out.made G6 R6; clear G6 S6 R6)
                      | (with_reducible refine wpList_load_gd (by with_unfolding_all rfl) 38 (.tmp 21) rfl u3.heap.size (by with_unfolding_all rfl) 38 (tg st kc m j) (HX4.out.ga (m0 _ _)) Try.underlying38 (by rw [HTL.out]; exact infoState) ?_)
                      | (with_reducible refine wpList_load_gd (by with_unfolding_all rfl) 44 (.tmp 20) rfl wr.heap.size (by with_unfolding_all rfl) 44 (tg st kc m j) (by rw [HTg.out]; exact HX4.out.ga (m1 _ _ _)) Try.underlying44 (by rw [HTL.out]; exact infoGame11) ?_))
                    go_roundw
                    case rel => exact ⟨j + 1, by go_num, by omega, HX4.out.less.less⟩
                    case measure => simp [numI]; omega
              · obtain rfl : j = k := by omega
                have HU := Lib.hid (f_used HF3.out (4 + (m - 1)) qt_used (4 + ((m : Int) - 1)) (by have := HM1.out; omega))
                have hmc8 : (m : Int) ≤ 8 := by have := HMn.out; omega
                have hmc0 : (1 : Int) ≤ (m : Int) := by have := HM1.out; omega
                clear hjlt
                go_wp2_with (first
                  | (go_at_call 21; with_reducible refine (f_room HF3.out).mono ?_; rintro e u8 ⟨rfl, E⟩; have HF8 := Lib.hid E; clear E; have HU8 := Lib.hid (f_used HF8.out (4 + (m - 1)) qt_used (4 + ((m : Int) - 1)) (by have := HM1.out; omega)))
                  | (go_at_call 22; with_reducible refine HU8.out.mono ?_; rintro e u9 ⟨rfl, E⟩; have HF9 := Lib.hid E; clear E))
                go_ret
                exact ⟨rfl, HBw.out.trans (HF9.out.be.mono HBw.out.size)⟩
          · obtain rfl : m = k := by omega
            have HQ : Hid (∀ (g : List Int), g.length = 32 → ∀ W, (binOp .neq 44 (.agg (gC g)) (.agg (gC g))).run Try.prog W = .ok (.bool false) W) := fun g hg W => by
              rw [run_neq_struct, equalIn_g 44 Try.underlying44 Try.underlying21 infoCell g g hg hg W]; simp [Result.andThen]
            have HM1 := Lib.hid hm1
            have HMn := Lib.hid hmn
            have HFm := Lib.hid hF2.out
            clear hmn hF2
            go_wp2_with fail
            go_loopw [19] (fun i wr => ∃ j : Nat, i = .int .i64 j ∧ j ≤ m ∧ Hid (Frm wa wr S P A M (QS m m st kc) [(b, o), (a, gaO 38 st)])) (fun i _ => 9 - (numI i).toNat)
            case atStart => exact ⟨0, rfl, by omega, HFm.out⟩
            case round =>
              obtain ⟨j, rfl, hjk, hF3⟩ := hrel
              have HBr := Lib.hid (HBw.out.trans (hF3.out.be.mono HBw.out.size))
              have HF3 := Lib.hid hF3.out
              clear hF3
              by_cases hjlt : j < m
              · have hjc : (j : Int) < (m : Int) := by omega
                have htl : (tg st kc m j).length = 32 := by unfold tg; split <;> simp [HS32.out]
                have HTL := Lib.hid htl
                have hneq := HQ.out (tg st kc m j) htl
                clear htl
                by_cases hw1 : 1 ≤ j ∧ j < cs.length
                · obtain ⟨hj1, hjl⟩ := hw1
                  have hj1c : (j : Int) ≥ 1 := by omega
                  have hjlc : (j : Int) < (cs.length : Int) := by omega
                  obtain ⟨bb, off, rfl, hbB, hcell⟩ := HRC.out (by omega)
                  have q0 := hcell j hjl
                  have hzb := HCZ.out cs[j] (List.getElem_mem hjl)
                  have hkm := HKC.out j hjl
                  clear hcell
                  generalize cs[j] = z at q0 hzb hkm
                  have HP := Lib.hid (fun (W : World) (hb : Below w.heap.size w W) => (hb.cell (p := ⟨bb, off + j, none⟩) hbB).trans q0)
                  obtain ⟨hk32, hk2, hk3, hk4⟩ := kN_at z hzb
                  rw [← hkm] at hk32 hk2
                  have HTg : Hid (tg st kc m j = st.set (kc j) (1000 + (j : Int))) := by rw [Hid]; unfold tg; rw [if_pos ⟨hj1, by omega⟩]
                  have HRow := Lib.hid (fun (W : World) (E : W.heap[b]? = some o) => HR.out.cell E j _ (idL_at m j hjlt))
                  obtain ⟨km, hkmd⟩ : ∃ km, km = kc j := ⟨_, rfl⟩
                  rw [← hkmd] at hk32 hk2 HTg
                  have hkmc : (km : Int) < 32 := by omega
                  have hj8 : (j : Int) ≤ 8 := by omega
                  have hj0 : (0 : Int) ≤ (j : Int) := by omega
                  have HK32 := Lib.hid hk32
                  clear hkm hzb hkmd q0
                  go_wp2_with (first
                    | (with_reducible refine wpList_load_g rfl 38 (.tmp 9) rfl a (by with_unfolding_all rfl) 38 st (HF3.out.ga (m1 _ _ _)) Try.underlying38 (by rw [HS32.out]; exact infoState) ?_)
                    | (with_reducible refine wpList_store_g rfl 44 (.tmp 20) (.tmp 106) rfl _ (by with_unfolding_all rfl) 44 (zG 32) st (GA.new _ _ _) (by with_unfolding_all rfl) (by rw [HS32.out, z32.out]) (by rw [HS32.out]; exact infoGame11) ?_; intro u1 G6 S6 R6; have HX1 := HF3.out.made G6 R6; clear G6 S6 R6; have q3 := HP.out u1 (HBw.out.trans (HX1.out.be.mono HBw.out.size)); obtain ⟨old, gc⟩ := ga_at HX1.out km HS32.out HK32.out; have gf := (HX1.out.ga (m0 _ _)).frozen km; have HX2 := HX1.out.cellset km (1000 + (j : Int)); have q4 := HRow.out _ (HX2.out.own (m1 _ _ _)))
                    | (go_at_call 19; with_reducible refine (f_state HX2.out ((j : Int) + 1) (tg st kc m j) (rng9 hj0 hj8) (qt_state j hjlt _ rfl)).mono ?_; rintro e u3 ⟨rfl, E⟩; have HX3 := Lib.hid E; clear E)
                    | (with_reducible refine wpList_store_g rfl 38 (.tmp 21) (.tmp 133) rfl _ (by with_unfolding_all rfl) 38 (zG 32) (tg st kc m j) (GA.new _ _ _) (by with_unfolding_all rfl) (by rw [HTL.out, z32.out]) (by rw [HTL.out]; exact infoState) ?_; intro u4 G6 S6 R6; have HX4 := HX3.out.made G6 R6; clear G6 S6 R6)
                    | (with_reducible refine wpList_load_gd (by with_unfolding_all rfl) 38 (.tmp 21) rfl u3.heap.size (by with_unfolding_all rfl) 38 (tg st kc m j) (HX4.out.ga (m0 _ _)) Try.underlying38 (by rw [HTL.out]; exact infoState) ?_)
                    | (with_reducible refine wpList_load_gd (by with_unfolding_all rfl) 44 (.tmp 20) rfl wr.heap.size (by with_unfolding_all rfl) 44 (tg st kc m j) (by rw [HTg.out]; exact HX4.out.ga (m1 _ _ _)) Try.underlying44 (by rw [HTL.out]; exact infoGame11) ?_))
                  go_roundw
                  case rel => exact ⟨j + 1, by go_num, by omega, HX4.out.less.less⟩
                  case measure => simp [numI]; omega
                · have HTg : Hid (tg st kc m j = st) := by rw [Hid]; unfold tg; rw [if_neg (by have := HM1.out; omega)]
                  have q4 := HR.out.cell (HF3.out.own (m0 _ _)) j _ (idL_at m j hjlt)
                  have HRow := Lib.hid (fun (W : World) (E : W.heap[b]? = some o) => HR.out.cell E j _ (idL_at m j hjlt))
                  have hj8 : (j : Int) ≤ 8 := by omega
                  have hj0 : (0 : Int) ≤ (j : Int) := by omega
                  by_cases hj1 : (j : Int) ≥ 1
                  · have hjlc : ¬ (j : Int) < (cs.length : Int) := by omega
                    clear hw1
                    go_wp2_with (first
                      | (with_reducible refine wpList_load_g rfl 38 (.tmp 9) rfl a (by with_unfolding_all rfl) 38 st (HF3.out.ga (m1 _ _ _)) Try.underlying38 (by rw [HS32.out]; exact infoState) ?_)
                      | (with_reducible refine wpList_store_g rfl 44 (.tmp 20) (.tmp 106) rfl _ (by with_unfolding_all rfl) 44 (zG 32) st (GA.new _ _ _) (by with_unfolding_all rfl) (by rw [HS32.out, z32.out]) (by rw [HS32.out]; exact infoGame11) ?_; intro u1 G6 S6 R6; have HX2 := HF3.out.made G6 R6; clear G6 S6 R6; have q5 := HRow.out _ (HX2.out.own (m1 _ _ _)))
                      | (go_at_call 19; with_reducible refine (f_state HX2.out ((j : Int) + 1) (tg st kc m j) (rng9 hj0 hj8) (qt_state j hjlt _ rfl)).mono ?_; rintro e u3 ⟨rfl, E⟩; have HX3 := Lib.hid E; clear E)
                      | (with_reducible refine wpList_store_g rfl 38 (.tmp 21) (.tmp 133) rfl _ (by with_unfolding_all rfl) 38 (zG 32) (tg st kc m j) (GA.new _ _ _) (by with_unfolding_all rfl) (by rw [HTL.out, z32.out]) (by rw [HTL.out]; exact infoState) ?_; intro u4 G6 S6 R6; have HX4 := HX3.out.made G6 R6; clear G6 S6 R6)
                      | (with_reducible refine wpList_load_gd (by with_unfolding_all rfl) 38 (.tmp 21) rfl u3.heap.size (by with_unfolding_all rfl) 38 (tg st kc m j) (HX4.out.ga (m0 _ _)) Try.underlying38 (by rw [HTL.out]; exact infoState) ?_)
                      | (with_reducible refine wpList_load_gd (by with_unfolding_all rfl) 44 (.tmp 20) rfl wr.heap.size (by with_unfolding_all rfl) 44 (tg st kc m j) (by rw [HTg.out]; exact HX4.out.ga (m1 _ _ _)) Try.underlying44 (by rw [HTL.out]; exact infoGame11) ?_))
                    go_roundw
                    case rel => exact ⟨j + 1, by go_num, by omega, HX4.out.less.less⟩
                    case measure => simp [numI]; omega
                  · clear hw1
                    go_wp2_with (first
                      | (with_reducible refine wpList_load_g rfl 38 (.tmp 9) rfl a (by with_unfolding_all rfl) 38 st (HF3.out.ga (m1 _ _ _)) Try.underlying38 (by rw [HS32.out]; exact infoState) ?_)
                      | (with_reducible refine wpList_store_g rfl 44 (.tmp 20) (.tmp 106) rfl _ (by with_unfolding_all rfl) 44 (zG 32) st (GA.new _ _ _) (by with_unfolding_all rfl) (by rw [HS32.out, z32.out]) (by rw [HS32.out]; exact infoGame11) ?_; intro u1 G6 S6 R6; have HX2 := HF3.out.made G6 R6; clear G6 S6 R6; have q5 := HRow.out _ (HX2.out.own (m1 _ _ _)))
                      | (go_at_call 19; with_reducible refine (f_state HX2.out ((j : Int) + 1) (tg st kc m j) (rng9 hj0 hj8) (qt_state j hjlt _ rfl)).mono ?_; rintro e u3 ⟨rfl, E⟩; have HX3 := Lib.hid E; clear E)
                      | (with_reducible refine wpList_store_g rfl 38 (.tmp 21) (.tmp 133) rfl _ (by with_unfolding_all rfl) 38 (zG 32) (tg st kc m j) (GA.new _ _ _) (by with_unfolding_all rfl) (by rw [HTL.out, z32.out]) (by rw [HTL.out]; exact infoState) ?_; intro u4 G6 S6 R6; have HX4 := HX3.out.made G6 R6; clear G6 S6 R6)
                      | (with_reducible refine wpList_load_gd (by with_unfolding_all rfl) 38 (.tmp 21) rfl u3.heap.size (by with_unfolding_all rfl) 38 (tg st kc m j) (HX4.out.ga (m0 _ _)) Try.underlying38 (by rw [HTL.out]; exact infoState) ?_)
                      | (with_reducible refine wpList_load_gd (by with_unfolding_all rfl) 44 (.tmp 20) rfl wr.heap.size (by with_unfolding_all rfl) 44 (tg st kc m j) (by rw [HTg.out]; exact HX4.out.ga (m1 _ _ _)) Try.underlying44 (by rw [HTL.out]; exact infoGame11) ?_))
                    go_roundw
                    case rel => exact ⟨j + 1, by go_num, by omega, HX4.out.less.less⟩
                    case measure => simp [numI]; omega
              · obtain rfl : m = j := by omega
                have HU := Lib.hid (f_used HF3.out (4 + (m - 1)) qt_used (4 + ((m : Int) - 1)) (by have := HM1.out; omega))
                have hmc8 : (m : Int) ≤ 8 := by have := HMn.out; omega
                have hmc0 : (1 : Int) ≤ (m : Int) := by have := HM1.out; omega
                clear hjlt
                go_wp2_with (first
                  | (go_at_call 21; with_reducible refine (f_room HF3.out).mono ?_; rintro e u8 ⟨rfl, E⟩; have HF8 := Lib.hid E; clear E; have HU8 := Lib.hid (f_used HF8.out (4 + (m - 1)) qt_used (4 + ((m : Int) - 1)) (by have := HM1.out; omega)))
                  | (go_at_call 22; with_reducible refine HU8.out.mono ?_; rintro e u9 ⟨rfl, E⟩; have HF9 := Lib.hid E; clear E))
                go_ret
                exact ⟨rfl, HBw.out.trans (HF9.out.be.mono HBw.out.size)⟩
end Go.Proofs.Ytkmkjfbbpeocdaa
