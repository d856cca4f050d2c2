/- The store and a law's own blocks, as one fact. -/
import Derived.Test.YtkmkjfbbpeocdaaWt
namespace Go.Proofs.Ytkmkjfbbpeocdaa
set_option maxRecDepth 100000
open Go.RowKit Go.Maps
set_option linter.unusedVariables false
set_option linter.unusedSimpArgs false

/-- the store (of which Q is true) and the law's own blocks O -/
def Frm (w0 w : World) (S P A M : Nat) (Q : List Sh → List Pc → Prop) (O : List (Nat × Obj)) : Prop :=
  ∃ (l : List Sh) (L : List Pc), LX w0 w S P A M l L (O.map (·.1)) ∧ Q l L ∧ (O.map (·.1)).Nodup ∧ ∀ o ∈ O, w.heap[o.1]? = some o.2
section
variable {w0 w w' : World} {S P A M : Nat} {Q Q' : List Sh → List Pc → Prop} {O : List (Nat × Obj)}
theorem Frm.fin {l' : List Sh} {L' : List Pc} (hn : (O.map (·.1)).Nodup) (ho : ∀ o ∈ O, w.heap[o.1]? = some o.2) (h : LX w0 w' S P A M l' L' (O.map (·.1))) (hs : Same (O.map (·.1)) w w') (hQ : Q' l' L') : Frm w0 w' S P A M Q' O :=
  ⟨l', L', h, hQ, hn, fun o hO => (hs o.1 (List.mem_map_of_mem hO)).trans (ho o hO)⟩
theorem Frm.belows (h : Frm w0 w S P A M Q O) (hb : Below w.heap.size w w') : Frm w0 w' S P A M Q O := by
  obtain ⟨l, L, h1, h2, h3, h4⟩ := h
  exact Frm.fin h3 h4 (h1.belows hb).1 (h1.belows hb).2 h2
theorem Frm.be (h : Frm w0 w S P A M Q O) : Below w0.heap.size w0 w := by
  obtain ⟨l, L, h1, _⟩ := h
  exact h1.ls.be
theorem Frm.own (h : Frm w0 w S P A M Q O) {x : Nat} {o : Obj} (hx : (x, o) ∈ O) : w.heap[x]? = some o := by
  obtain ⟨l, L, h1, h2, h3, h4⟩ := h
  exact h4 (x, o) hx
theorem Frm.new (h : Frm w0 w S P A M Q O) (hb : Below w.heap.size w w') (x : Nat) (o : Obj) (hx : w.heap.size ≤ x) (hx2 : w'.heap[x]? = some o) : Frm w0 w' S P A M Q ((x, o) :: O) := by
  obtain ⟨l, L, h1, h2, h3, h4⟩ := h
  have h5 := h1.add hb x hx (Array.getElem?_eq_some_iff.1 hx2).1
  refine ⟨l, L, h5.1, h2, ?_, fun p hp => ?_⟩
  · rw [List.map_cons, List.nodup_cons]
    refine ⟨fun hm => ?_, h3⟩
    have := (h1.far x hm).2.1
    omega
  · rcases List.mem_cons.1 hp with rfl | hp
    · exact hx2
    · exact (h5.2 p.1 (List.mem_map_of_mem hp)).trans (h4 p hp)
theorem Frm.put {x : Nat} {o : Obj} (h : Frm w0 w S P A M Q ((x, o) :: O)) (g : w.grownBy w' (some x)) (o' : Obj) (hx2 : w'.heap[x]? = some o') : Frm w0 w' S P A M Q ((x, o') :: O) := by
  obtain ⟨l, L, h1, h2, h3, h4⟩ := h
  have h5 := h1.wrote (x := x) (by simp) g
  refine ⟨l, L, h5.1, h2, h3, fun p hp => ?_⟩
  rcases List.mem_cons.1 hp with rfl | hp
  · exact hx2
  · have hm : p.1 ∈ ((x, o) :: O).map (·.1) := List.mem_map_of_mem (List.mem_cons_of_mem _ hp)
    rw [h5.2 p.1 (h1.far p.1 hm).2.1 (fun e => ?_)]
    · exact h4 p (List.mem_cons_of_mem _ hp)
    · rw [List.map_cons, List.nodup_cons] at h3
      have h6 : p.1 ∈ O.map (·.1) := List.mem_map_of_mem hp
      rw [e] at h6
      exact h3.1 h6
theorem Frm.less {x : Nat} {o : Obj} (h : Frm w0 w S P A M Q ((x, o) :: O)) : Frm w0 w S P A M Q O := by
  obtain ⟨l, L, h1, h2, h3, h4⟩ := h
  exact ⟨l, L, h1.less (fun y hy => by rw [List.map_cons]; exact List.mem_cons_of_mem _ hy), h2, by rw [List.map_cons, List.nodup_cons] at h3; exact h3.2, fun p hp => h4 p (List.mem_cons_of_mem _ hp)⟩
theorem Frm.same (h : Frm w0 w S P A M Q O) (hw : w = w') : Frm w0 w' S P A M Q O := hw ▸ h
theorem f_room (h : Frm w0 w S P A M Q O) :
    Calls Try.prog 21 #[.pointer (some ⟨S, 0, none⟩)] w fun e w' => e = .returned (.pointer (some ⟨P, 0, none⟩)) ∧ Frm w0 w' S P A M Q O := by
  have h0 := h
  obtain ⟨l, L, h1, h2, h3, h4⟩ := h
  exact (x_room h1).mono fun e w' ⟨he, hw⟩ => ⟨he, h0.same hw⟩
theorem f_used (h : Frm w0 w S P A M Q O) (u : Nat) (hu : ∀ l L, INV l L → Q l L → usedN l = u) (x : Int) (hx : x = u) :
    Calls Try.prog 22 #[.pointer (some ⟨P, 0, none⟩)] w fun e w' => e = .returned (.int .i64 x) ∧ Frm w0 w' S P A M Q O := by
  obtain ⟨l, L, h1, h2, h3, h4⟩ := h
  exact (x_used h1 x (by rw [hx, hu l L h1.inv h2])).mono fun e w' ⟨he, h5, h6⟩ => ⟨he, Frm.fin h3 h4 h5 h6 h2⟩
/-- the game of a live picture, told -/
theorem f_state (h : Frm w0 w S P A M Q O) (x : Int) (g : List Int) (hx : rng x) (hg : ∀ l L, Q l L → ∃ (k : Nat) (c : Pc), x = k + 1 ∧ L[k]? = some c ∧ 0 < c.r ∧ gmL l c.on = g) :
    Calls Try.prog 19 #[.pointer (some ⟨S, 0, none⟩), .int .i64 x] w fun e w' => e = .returned (.tuple #[.agg (gC g), .bool true]) ∧ Frm w0 w' S P A M Q O := by
  obtain ⟨l, L, h1, h2, h3, h4⟩ := h
  obtain ⟨k, c, hk, hc, hr, hgm⟩ := hg l L h2
  exact (x_state h1 x hx k c hk hc hr g hgm).mono fun e w' ⟨he, h5, h6⟩ => ⟨he, Frm.fin h3 h4 h5 h6 h2⟩
theorem f_get (h : Frm w0 w S P A M Q O) (x i : Int) (n : Nat) (hi : i = n) (hn : n < 32) (v : Int) (hx : rng x) (hg : ∀ l L, Q l L → ∃ (k : Nat) (c : Pc), x = k + 1 ∧ L[k]? = some c ∧ 0 < c.r ∧ (gmL l c.on)[n]? = some v) :
    Calls Try.prog 23 #[.pointer (some ⟨S, 0, none⟩), .int .i64 x, .int .i64 i] w fun e w' => e = .returned (.tuple #[.int .i32 v, .bool true]) ∧ Frm w0 w' S P A M Q O := by
  obtain ⟨l, L, h1, h2, h3, h4⟩ := h
  obtain ⟨k, c, hk, hc, hr, hgm⟩ := hg l L h2
  exact (x_get h1 x i hx k c hk hc hr n hi hn v hgm).mono fun e w' ⟨he, h5, h6⟩ => ⟨he, Frm.fin h3 h4 h5 h6 h2⟩
theorem f_getno (h : Frm w0 w S P A M Q O) (x i : Int) (hx : rng x) (hg : ∀ l L, Q l L → Dead L x ∨ ∃ (k : Nat) (c : Pc), x = k + 1 ∧ L[k]? = some c ∧ 0 < c.r ∧ ceB i = false) :
    Calls Try.prog 23 #[.pointer (some ⟨S, 0, none⟩), .int .i64 x, .int .i64 i] w fun e w' => e = .returned (.tuple #[.int .i32 0, .bool false]) ∧ Frm w0 w' S P A M Q O := by
  obtain ⟨l, L, h1, h2, h3, h4⟩ := h
  exact (x_getno h1 x i hx (hg l L h2)).mono fun e w' ⟨he, h5, h6⟩ => ⟨he, Frm.fin h3 h4 h5 h6 h2⟩
theorem f_setno (h : Frm w0 w S P A M Q O) (hL : ∀ l L, Q l L → L.length ≤ 900) (x i v : Int) (hx : rng x)
    (hno : ∀ l L, Q l L → Dead L x ∨ ∃ (k : Nat) (c : Pc), x = k + 1 ∧ L[k]? = some c ∧ 0 < c.r ∧ (ceB i = false ∨ ∃ n : Nat, i = n ∧ n < 32 ∧ 1 < (pg l (c.on (n / 8))).r ∧ usedN l = l.length)) :
    Calls Try.prog 18 #[.pointer (some ⟨S, 0, none⟩), .int .i64 x, .int .i64 i, .int .i32 v] w fun e w' => e = .returned (.bool false) ∧ Frm w0 w' S P A M Q O := by
  obtain ⟨l, L, h1, h2, h3, h4⟩ := h
  exact (x_setno h1 (hL l L h2) x i v hx (hno l L h2)).mono fun e w' ⟨he, h5, h6⟩ => ⟨he, Frm.fin h3 h4 h5 h6 h2⟩
theorem f_set (h : Frm w0 w S P A M Q O) (x i v : Int) (n : Nat) (hi : i = n) (hn : n < 32)
    (hs : ∀ l L, INV l L → Q l L → L.length ≤ 900 ∧ ∃ (k : Nat) (c : Pc), x = k + 1 ∧ L[k]? = some c ∧ 0 < c.r ∧ (1 < (pg l (c.on (n / 8))).r → usedN l < l.length) ∧ ∀ l' f, SetR l l' L k c f n v → Q' l' (L.set k ⟨c.b, c.r, f⟩)) :
    Calls Try.prog 18 #[.pointer (some ⟨S, 0, none⟩), .int .i64 x, .int .i64 i, .int .i32 v] w fun e w' => e = .returned (.bool true) ∧ Frm w0 w' S P A M Q' O := by
  obtain ⟨l, L, h1, h2, h3, h4⟩ := h
  obtain ⟨hL, k, c, hk, hc, hr, hf, hq⟩ := hs l L h1.inv h2
  exact (x_set h1 hL x i v k c hk hc hr n hi hn hf).mono fun e w' ⟨he, l', f, h5, h6, R⟩ => ⟨he, Frm.fin h3 h4 h5 h6 (hq l' f R)⟩
theorem f_make (h : Frm w0 w S P A M Q O) (g : List Int) (hg : g.length = 32) (x : Int)
    (hs : ∀ l L, INV l L → Q l L → L.length ≤ 900 ∧ usedN l + 4 ≤ l.length ∧ x = L.length + 1 ∧ ∀ l' f b, MadeN l l' g f 4 → Q' l' (L ++ [⟨b, 1, f⟩])) :
    Calls Try.prog 16 #[.pointer (some ⟨S, 0, none⟩), .agg (gC g)] w fun e w' => e = .returned (.tuple #[.int .i64 x, .bool true]) ∧ Frm w0 w' S P A M Q' O := by
  obtain ⟨l, L, h1, h2, h3, h4⟩ := h
  obtain ⟨hL, hu, hx, hq⟩ := hs l L h1.inv h2
  exact (x_make h1 hu hL g hg x hx).mono fun e w' ⟨he, l', f, b, h5, h6, R⟩ => ⟨he, Frm.fin h3 h4 h5 h6 (hq l' f b R)⟩
theorem f_fork (h : Frm w0 w S P A M Q O) (x y : Int)
    (hs : ∀ l L, INV l L → Q l L → L.length ≤ 900 ∧ y = L.length + 1 ∧ ∃ (k : Nat) (c : Pc), x = k + 1 ∧ L[k]? = some c ∧ 0 < c.r ∧ ∀ l' b, TurnN 1 l l' c.on 4 → Q' l' (L ++ [⟨b, 1, c.on⟩])) :
    Calls Try.prog 17 #[.pointer (some ⟨S, 0, none⟩), .int .i64 x] w fun e w' => e = .returned (.tuple #[.int .i64 y, .bool true]) ∧ Frm w0 w' S P A M Q' O := by
  obtain ⟨l, L, h1, h2, h3, h4⟩ := h
  obtain ⟨hL, hy, k, c, hk, hc, hr, hq⟩ := hs l L h1.inv h2
  exact (x_fork h1 hL x k c hk hc hr y hy).mono fun e w' ⟨he, l', b, h5, h6, R⟩ => ⟨he, Frm.fin h3 h4 h5 h6 (hq l' b R)⟩
theorem f_drop (h : Frm w0 w S P A M Q O) (x : Int)
    (hs : ∀ l L, INV l L → Q l L → L.length ≤ 900 ∧ ∃ (k : Nat) (c : Pc), x = k + 1 ∧ L[k]? = some c ∧ 0 < c.r ∧ c.r ≤ 1000 ∧ ∀ l', DropR l l' c → Q' l' (L.set k ⟨c.b, c.r - 1, c.on⟩)) :
    Calls Try.prog 20 #[.pointer (some ⟨S, 0, none⟩), .int .i64 x] w fun e w' => e = .returned (.bool true) ∧ Frm w0 w' S P A M Q' O := by
  obtain ⟨l, L, h1, h2, h3, h4⟩ := h
  obtain ⟨hL, k, c, hk, hc, hr, hr1, hq⟩ := hs l L h1.inv h2
  exact (x_drop h1 hL x k c hk hc hr hr1).mono fun e w' ⟨he, l', h5, h6, R⟩ => ⟨he, Frm.fin h3 h4 h5 h6 (hq l' R)⟩
theorem f_dropno (h : Frm w0 w S P A M Q O) (x : Int) (hx : rng x) (hd : ∀ l L, Q l L → Dead L x) :
    Calls Try.prog 20 #[.pointer (some ⟨S, 0, none⟩), .int .i64 x] w fun e w' => e = .returned (.bool false) ∧ Frm w0 w' S P A M Q O := by
  obtain ⟨l, L, h1, h2, h3, h4⟩ := h
  exact (x_dropno h1 x hx (hd l L h2)).mono fun e w' ⟨he, h5, h6⟩ => ⟨he, Frm.fin h3 h4 h5 h6 h2⟩
end
def Q0 (N : Nat) (l : List Sh) (L : List Pc) : Prop := L = [] ∧ usedN l = 0 ∧ l.length = N
theorem f_new (n : Nat) (hn : n ≤ 50) (x : Int) (hx : x = n) (w : World) (N : Nat) (hN : N = 4 * n) :
    Calls Try.prog 12 #[.int .i64 x] w fun e w' => ∃ S P A M, e = .returned (.pointer (some ⟨S, 0, none⟩)) ∧ Frm w w' S P A M (Q0 N) [] :=
  (x_new n hn x hx w N hN).mono fun e w' ⟨S, P, A, M, l, he, h1, h2, h3⟩ => ⟨S, P, A, M, he, l, [], h1, ⟨rfl, h2, h3⟩, List.nodup_nil, fun o ho => by simp at ho⟩
/-! ### one, two pictures -/
def Q1 (N : Nat) (g : List Int) (l : List Sh) (L : List Pc) : Prop := ∃ b f, L = [⟨b, 1, f⟩] ∧ gmL l f = g ∧ l.length = N
def Q2 (N : Nat) (g g2 : List Int) (l : List Sh) (L : List Pc) : Prop := ∃ b f b2 f2, L = [⟨b, 1, f⟩, ⟨b2, 1, f2⟩] ∧ gmL l f = g ∧ gmL l f2 = g2 ∧ l.length = N
def QL (N : Nat) (g2 : List Int) (l : List Sh) (L : List Pc) : Prop := ∃ b f b2 f2, L = [⟨b, 0, f⟩, ⟨b2, 1, f2⟩] ∧ gmL l f2 = g2 ∧ l.length = N
theorem q_make {N : Nat} (hN : 4 ≤ N) (g : List Int) (hg : g.length = 32) (l : List Sh) (L : List Pc) (I : INV l L) (h : Q0 N l L) : L.length ≤ 900 ∧ usedN l + 4 ≤ l.length ∧ (1 : Int) = L.length + 1 ∧ ∀ l' f b, MadeN l l' g f 4 → Q1 N g l' (L ++ [⟨b, 1, f⟩]) := by
  obtain ⟨rfl, h2, h3⟩ := h
  exact ⟨by simp, by omega, rfl, fun l' f b Md => ⟨b, f, rfl, Md.gm hg, Md.len.trans h3⟩⟩
theorem q_fork {N : Nat} {g : List Int} (l : List Sh) (L : List Pc) (I : INV l L) (h : Q1 N g l L) : L.length ≤ 900 ∧ (2 : Int) = L.length + 1 ∧ ∃ (k : Nat) (c : Pc), (1 : Int) = k + 1 ∧ L[k]? = some c ∧ 0 < c.r ∧ ∀ l' b, TurnN 1 l l' c.on 4 → Q2 N g g l' (L ++ [⟨b, 1, c.on⟩]) := by
  obtain ⟨b, f, rfl, h2, h3⟩ := h
  exact ⟨by simp, rfl, 0, ⟨b, 1, f⟩, rfl, rfl, (show (0 : Int) < 1 by omega), fun l' b2 T => ⟨b, f, b2, f, rfl, (T.gm f).trans h2, (T.gm f).trans h2, T.len.trans h3⟩⟩
theorem q_set1 {N : Nat} {g : List Int} (n : Nat) (hn : n < 32) (v : Int) (l : List Sh) (L : List Pc) (I : INV l L) (h : Q1 N g l L) : L.length ≤ 900 ∧ ∃ (k : Nat) (c : Pc), (1 : Int) = k + 1 ∧ L[k]? = some c ∧ 0 < c.r ∧ (1 < (pg l (c.on (n / 8))).r → usedN l < l.length) ∧ ∀ l' f, SetR l l' L k c f n v → Q1 N (g.set n v) l' (L.set k ⟨c.b, c.r, f⟩) := by
  obtain ⟨b, f, rfl, h2, h3⟩ := h
  refine ⟨by simp, 0, ⟨b, 1, f⟩, rfl, rfl, (show (0 : Int) < 1 by omega), fun hs => ?_, fun l' f' R => ⟨b, f', rfl, R.gm.trans (by rw [h2]), R.len.trans h3⟩⟩
  have := one_alone I (show (0 : Int) < 1 by omega) (i := n / 8) (by omega)
  have hs2 : 1 < (pg l (f (n / 8))).r := hs
  omega
theorem q_set2 {N : Nat} {g g2 : List Int} (hN : 8 < N) (n : Nat) (hn : n < 32) (v : Int) (l : List Sh) (L : List Pc) (I : INV l L) (h : Q2 N g g2 l L) : L.length ≤ 900 ∧ ∃ (k : Nat) (c : Pc), (2 : Int) = k + 1 ∧ L[k]? = some c ∧ 0 < c.r ∧ (1 < (pg l (c.on (n / 8))).r → usedN l < l.length) ∧ ∀ l' f, SetR l l' L k c f n v → Q2 N g (g2.set n v) l' (L.set k ⟨c.b, c.r, f⟩) := by
  obtain ⟨b, f, b2, f2, rfl, h2, h3, h4⟩ := h
  refine ⟨by simp, 1, ⟨b2, 1, f2⟩, rfl, rfl, (show (0 : Int) < 1 by omega), fun hs => by have := I.used_le; simp at this; omega, fun l' f' R => ⟨b, f, b2, f', rfl, (R.oth 0 ⟨b, 1, f⟩ (by omega) rfl (show (0 : Int) < 1 by omega)).trans h2, R.gm.trans (by rw [h3]), R.len.trans h4⟩⟩
theorem q_drop2 {N : Nat} {g g2 : List Int} (l : List Sh) (L : List Pc) (I : INV l L) (h : Q2 N g g2 l L) : L.length ≤ 900 ∧ ∃ (k : Nat) (c : Pc), (1 : Int) = k + 1 ∧ L[k]? = some c ∧ 0 < c.r ∧ c.r ≤ 1000 ∧ ∀ l', DropR l l' c → QL N g2 l' (L.set k ⟨c.b, c.r - 1, c.on⟩) := by
  obtain ⟨b, f, b2, f2, rfl, h2, h3, h4⟩ := h
  refine ⟨by simp, 0, ⟨b, 1, f⟩, rfl, rfl, (show (0 : Int) < 1 by omega), (show (1 : Int) ≤ 1000 by omega), fun l' hd => ?_⟩
  rcases hd with ⟨h5, _⟩ | ⟨_, T⟩
  · exact absurd h5 (show ¬ (1 : Int) < 1 by omega)
  · exact ⟨b, f, b2, f2, rfl, (T.gm f2).trans h3, T.len.trans h4⟩
theorem q_st1 {N : Nat} {g : List Int} (l : List Sh) (L : List Pc) (h : Q1 N g l L) : ∃ (k : Nat) (c : Pc), (1 : Int) = k + 1 ∧ L[k]? = some c ∧ 0 < c.r ∧ gmL l c.on = g := by
  obtain ⟨b, f, rfl, h2, h3⟩ := h
  exact ⟨0, ⟨b, 1, f⟩, rfl, rfl, (show (0 : Int) < 1 by omega), h2⟩
theorem q_st2a {N : Nat} {g g2 : List Int} (l : List Sh) (L : List Pc) (h : Q2 N g g2 l L) : ∃ (k : Nat) (c : Pc), (1 : Int) = k + 1 ∧ L[k]? = some c ∧ 0 < c.r ∧ gmL l c.on = g := by
  obtain ⟨b, f, b2, f2, rfl, h2, h3, h4⟩ := h
  exact ⟨0, ⟨b, 1, f⟩, rfl, rfl, (show (0 : Int) < 1 by omega), h2⟩
theorem q_st2b {N : Nat} {g g2 : List Int} (l : List Sh) (L : List Pc) (h : Q2 N g g2 l L) : ∃ (k : Nat) (c : Pc), (2 : Int) = k + 1 ∧ L[k]? = some c ∧ 0 < c.r ∧ gmL l c.on = g2 := by
  obtain ⟨b, f, b2, f2, rfl, h2, h3, h4⟩ := h
  exact ⟨1, ⟨b2, 1, f2⟩, rfl, rfl, (show (0 : Int) < 1 by omega), h3⟩
theorem q_stL {N : Nat} {g2 : List Int} (l : List Sh) (L : List Pc) (h : QL N g2 l L) : ∃ (k : Nat) (c : Pc), (2 : Int) = k + 1 ∧ L[k]? = some c ∧ 0 < c.r ∧ gmL l c.on = g2 := by
  obtain ⟨b, f, b2, f2, rfl, h3, h4⟩ := h
  exact ⟨1, ⟨b2, 1, f2⟩, rfl, rfl, (show (0 : Int) < 1 by omega), h3⟩
theorem q_used1 {N : Nat} {g : List Int} (l : List Sh) (L : List Pc) (I : INV l L) (h : Q1 N g l L) : usedN l = 4 := by
  obtain ⟨b, f, rfl, h2, h3⟩ := h
  exact one_used I (by omega)
theorem q_usedL {N : Nat} {g2 : List Int} (l : List Sh) (L : List Pc) (I : INV l L) (h : QL N g2 l L) : usedN l = 4 := by
  obtain ⟨b, f, b2, f2, rfl, h3, h4⟩ := h
  refine I.used4 1 ⟨b2, 1, f2⟩ rfl (show (0 : Int) < 1 by omega) (fun j d hj hd => ?_)
  rcases get_two hj with ⟨rfl, rfl⟩ | ⟨rfl, rfl⟩
  · exact absurd hd (show ¬ (0 : Int) < 0 by omega)
  · rfl
theorem q_deadL {N : Nat} {g2 : List Int} (l : List Sh) (L : List Pc) (h : QL N g2 l L) : Dead L 1 := by
  obtain ⟨b, f, b2, f2, rfl, h3, h4⟩ := h
  intro k c hk hc
  obtain rfl : k = 0 := by omega
  obtain rfl := Option.some.inj hc
  exact (show ¬ (0 : Int) < 0 by omega)
end Go.Proofs.Ytkmkjfbbpeocdaa
