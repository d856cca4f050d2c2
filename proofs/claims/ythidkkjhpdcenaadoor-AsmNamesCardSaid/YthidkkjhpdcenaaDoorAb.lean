/- PLAIN: a program's text, and that it is read as that program. -/
import Derived.Test.YthidkkjhpdcenaaDoorAa
namespace Go.Proofs.YthidkkjhpdcenaaDoor
open Go.RowKit
set_option linter.unusedVariables false

/-! ### a title's bytes -/
theorem dec_wide (s : ByteArray) (p : Nat) (_h : p < s.size) (hr : 128 ≤ (Utf8.decode s p).1) : ∀ j, j < (Utf8.decode s p).2 → 128 ≤ (s.get! (p + j)).toNat := by
  intro j hj
  rw [Lib.decode_at] at hr hj
  have hw : j = 0 ∨ j = 1 ∨ j = 2 ∨ j = 3 := by
    unfold Lib.decodeN at hj
    repeat' split at hj
    all_goals simp only at hj
    all_goals omega
  rcases hw with rfl | rfl | rfl | rfl
  all_goals
    try simp only [Nat.add_zero]
    generalize (s.get! p).toNat = c0 at *
    generalize (s.get! (p + 1)).toNat = c1 at *
    generalize (s.get! (p + 2)).toNat = c2 at *
    generalize (s.get! (p + 3)).toNat = c3 at *
    unfold Lib.decodeN at hj hr
    repeat' split at hj
    all_goals simp only at hj
    all_goals first | omega | (simp_all; omega) | simp_all
theorem plain_bytes (s : ByteArray) : ∀ (n p : Nat), s.size - p ≤ n → plainR (rnsAt s p) = true → ∀ j, p ≤ j → j < s.size → 32 ≤ (s.get! j).toNat := by
  intro n
  induction n with
  | zero => intro p h1 _ j h2 h3; omega
  | succ n ih =>
    intro p h1 hp j h2 h3
    have h : p < s.size := by omega
    rw [rnsAt_step h] at hp
    simp only [plainR, List.all_cons, Bool.and_eq_true] at hp
    obtain ⟨hx, hr⟩ := hp
    have hd := dec_pos s p
    by_cases hj : j < p + (Utf8.decode s p).2
    · by_cases hl : (Utf8.decode s p).1 < 128
      · obtain ⟨e1, e2⟩ := dec_low s p h hl
        obtain rfl : j = p := by omega
        rw [get!_at s j h, e2]
        simp at hx
        omega
      · have := dec_wide s p h (by omega) (j - p) (by omega)
        rw [show p + (j - p) = j by omega] at this
        omega
    · exact ih _ (by omega) hr j (by omega) h3
theorem tit_bytes {s : ByteArray} (h : titB s = true) : 0 < s.size ∧ ∀ c ∈ lst s, 32 ≤ c.toNat := by
  unfold titB at h
  simp only [Bool.and_eq_true, decide_eq_true_eq] at h
  obtain ⟨⟨_, h1, _⟩, h2⟩ := h
  have hl := rns_len s
  refine ⟨by omega, fun c hc => ?_⟩
  obtain ⟨j, hj, rfl⟩ := List.getElem_of_mem hc
  have hj2 : j < s.size := by rw [← lst_len]; exact hj
  have := plain_bytes s s.size 0 (by omega) h2 j (by omega) hj2
  rw [get!_at s j hj2] at this
  exact this
theorem tit_no10 {s : ByteArray} (h : titB s = true) : ∀ c ∈ lst s, c ≠ 10 := fun c hc e => by
  have := (tit_bytes h).2 c hc
  rw [e] at this
  exact absurd this (by decide)
theorem str_lst (s : ByteArray) : str (lst s) = s := by unfold str; rw [← of_lst]

/-! ### words -/
def solid (w : List UInt8) : Prop := w ≠ [] ∧ ∀ c ∈ w, blk c = false ∧ c ≠ 35 ∧ c ≠ 10
def joinW (w : List UInt8) (ws : List (List UInt8)) : List UInt8 := w ++ ws.flatMap (fun x => 32 :: x)
theorem wordsL_solid (w r : List UInt8) (cur : List UInt8) (h : ∀ c ∈ w, blk c = false) : wordsL cur (w ++ r) = wordsL (cur ++ w) r := wordsL_skip w cur r h
theorem wordsL_joinW : ∀ (ws : List (List UInt8)) (w : List UInt8), solid w → (∀ x ∈ ws, solid x) → wordsL [] (joinW w ws) = w :: ws
  | [], w, hw, _ => by
    unfold joinW
    rw [wordsL_skip w [] _ (fun c hc => (hw.2 c hc).1)]
    simp only [List.flatMap_nil, List.nil_append]
    rw [wordsL, if_neg hw.1]
  | x :: r, w, hw, h => by
    have ih := wordsL_joinW r x (h x (by simp)) (fun y hy => h y (by simp [hy]))
    unfold joinW at ih ⊢
    rw [wordsL_skip w [] _ (fun c hc => (hw.2 c hc).1), List.nil_append, List.flatMap_cons, List.cons_append, wordsL, if_pos (by decide), if_neg hw.1, ih]
theorem joinW_mem {w : List UInt8} {ws : List (List UInt8)} (hw : solid w) (h : ∀ x ∈ ws, solid x) {c : UInt8} (hc : c ∈ joinW w ws) : c ≠ 35 ∧ c ≠ 10 := by
  unfold joinW at hc
  rw [List.mem_append, List.mem_flatMap] at hc
  rcases hc with hc | ⟨x, hx, hc⟩
  · exact (hw.2 c hc).2
  · rw [List.mem_cons] at hc
    rcases hc with rfl | hc
    · exact ⟨by decide, by decide⟩
    · exact ((h x hx).2 c hc).2
theorem trimR_solid (a b : List UInt8) (hb : solid b) : trimR (a ++ b) = a ++ b := by
  rcases List.eq_nil_or_concat b with h | ⟨q, d, h⟩
  · exact absurd h hb.1
  · rw [List.concat_eq_append] at h
    have hd : blk d = false := (hb.2 d (by rw [h]; simp)).1
    rw [h, ← List.append_assoc]
    exact trimR_snoc _ _ hd
theorem joinW_ends (w : List UInt8) (ws : List (List UInt8)) (hw : solid w) (h : ∀ x ∈ ws, solid x) : ∃ a b, joinW w ws = a ++ b ∧ solid b := by
  rcases List.eq_nil_or_concat ws with rfl | ⟨q, d, rfl⟩
  · exact ⟨[], w, by simp [joinW], hw⟩
  · rw [List.concat_eq_append] at h ⊢
    refine ⟨joinW w q ++ [32], d, ?_, h d (by simp)⟩
    unfold joinW
    rw [List.flatMap_append]
    simp
theorem joinW_clean (w : List UInt8) (ws : List (List UInt8)) (hw : solid w) (h : ∀ x ∈ ws, solid x) : clean (joinW w ws) := by
  refine ⟨fun c hc => (joinW_mem hw h hc).1, ?_, ?_⟩
  · cases w with
    | nil => exact absurd rfl hw.1
    | cons c r =>
      unfold joinW
      rw [List.cons_append]
      exact trimL_cons _ _ (hw.2 c (by simp)).1
  · obtain ⟨a, b, e, hb⟩ := joinW_ends w ws hw h
    rw [e]
    exact trimR_solid a b hb
theorem joinW_ne (w : List UInt8) (ws : List (List UInt8)) (hw : solid w) : joinW w ws ≠ [] := by
  unfold joinW
  intro e
  exact hw.1 (List.append_eq_nil_iff.1 e).1
instance (w : List UInt8) : Decidable (solid w) := by unfold solid; infer_instance
theorem name_solid (k : Nat) (h : k < 16) : solid (nameL k) := by
  have : ∀ j : Fin 16, solid (nameL j.1) := by decide
  exact this ⟨k, h⟩

/-! ### numbers -/
theorem digs_chars (N : Nat) : ∀ c ∈ Lib.decDigits N, 48 ≤ c.toNat ∧ c.toNat ≤ 57 := by
  induction N using Nat.strongRecOn with
  | _ N ih =>
    by_cases h : N < 10
    · rw [Lib.decDigits, dif_pos h]
      intro c hc
      rw [List.mem_singleton] at hc
      subst hc
      rw [digit_byte N h]
      omega
    · rw [Lib.decDigits, dif_neg h]
      intro c hc
      rw [List.mem_append, List.mem_singleton] at hc
      rcases hc with hc | rfl
      · exact ih (N / 10) (by omega) c hc
      · rw [digit_byte _ (by omega)]
        omega
theorem itoa_chars (n : Int) : ∀ c ∈ Lib.itoa n, c = 45 ∨ (48 ≤ c.toNat ∧ c.toNat ≤ 57) := by
  intro c hc
  rw [Lib.itoa] at hc
  split at hc
  · rw [List.mem_cons] at hc
    rcases hc with hc | hc
    · exact .inl hc
    · exact .inr (digs_chars _ c hc)
  · exact .inr (digs_chars _ c hc)
theorem itoa_solid (n : Int) : solid (Lib.itoa n) := by
  refine ⟨?_, fun c hc => ?_⟩
  · rw [Lib.itoa]
    split
    · simp
    · obtain ⟨c, r, e, _⟩ := dec_head n.toNat
      rw [e]; simp
  · rcases itoa_chars n c hc with rfl | ⟨h1, h2⟩
    · decide
    · refine ⟨?_, ?_, ?_⟩
      · rw [Bool.eq_false_iff]
        intro hb
        have := (blk_iff c).1 hb
        omega
      · intro e; rw [e] at h1; exact absurd h1 (by decide)
      · intro e; rw [e] at h1; exact absurd h1 (by decide)
theorem numT_itoa (x : Int) (h : sml x) : numT (str (Lib.itoa x)) = some x := num_itoa x h.1 h.2
theorem numT_far (x : Int) (h : ¬ sml x) : numT (str (Lib.itoa x)) = none := by
  have hl : lst (str (Lib.itoa x)) = Lib.itoa x := by simp [lst, str]
  unfold numT
  rw [hl, Lib.itoa]
  by_cases hx : x < 0
  · rw [if_pos hx, nGo_minus _ _ _ _ _ _ rfl rfl, nGo_main (-1) (.inr rfl) ((Lib.decDigits x.natAbs).length + 1) _ (by simp)]
    split
    · rfl
    · rw [dGo_dec]
      simp only [Option.bind_some, fin32]
      rw [if_neg (by unfold inR; unfold sml at h; omega)]
  · obtain ⟨c, r, e, g1, g2, _⟩ := dec_head x.toNat
    have hf : nGo true 0 1 0 (Lib.decDigits x.toNat) = nGo false 0 1 0 (Lib.decDigits x.toNat) := by
      rw [e]; exact nGo_first _ _ _ _ _ (by omega)
    rw [if_neg hx, hf, nGo_main 1 (.inl rfl) (Lib.decDigits x.toNat).length _ (by simp)]
    split
    · rfl
    · rw [dGo_dec]
      simp only [Option.bind_some, fin32]
      rw [if_neg (by unfold inR; unfold sml at h; omega)]
theorem numsL_itoa : ∀ (l : List Int), (∀ n ∈ l, sml n) → numsL (l.map Lib.itoa) = some l
  | [], _ => rfl
  | n :: l, h => by
    rw [List.map_cons, numsL, numT_itoa n (h n (by simp))]
    simp only
    rw [numsL_itoa l (fun m hm => h m (by simp [hm]))]
theorem numsL_far : ∀ (l : List Int), (∃ n ∈ l, ¬ sml n) → numsL (l.map Lib.itoa) = none
  | [], h => by simp at h
  | n :: l, h => by
    rw [List.map_cons, numsL]
    by_cases hn : sml n
    · rw [numT_itoa n hn]
      simp only
      rw [numsL_far l (by
        obtain ⟨m, hm, hm2⟩ := h
        rw [List.mem_cons] at hm
        rcases hm with rfl | hm
        · exact absurd hn hm2
        · exact ⟨m, hm, hm2⟩)]
    · rw [numT_far n hn]

/-! ### an operation's line -/
def opArgs (o : O4) : List Int := [o.a, o.b, o.c]
def opLine (o : O4) : List UInt8 := joinW (nameL o.k.toNat) (((opArgs o).take (takesL o.k.toNat)).map Lib.itoa)
def okOp (o : O4) : Bool := decide (0 ≤ o.k) && decide (o.k < 16) && ((opArgs o).drop (takesL o.k.toNat)).all (· == 0)
theorem okOp_iff (o : O4) : okOp o = true ↔ 0 ≤ o.k ∧ o.k < 16 ∧ ∀ x ∈ (opArgs o).drop (takesL o.k.toNat), x = 0 := by
  unfold okOp; simp [and_assoc]
theorem map_solid (l : List Int) : ∀ x ∈ l.map Lib.itoa, solid x := by
  intro x hx
  obtain ⟨n, _, rfl⟩ := List.mem_map.1 hx
  exact itoa_solid n
theorem opLine_clean {o : O4} (h : okOp o = true) : clean (opLine o) := by
  obtain ⟨h1, h2, _⟩ := (okOp_iff o).1 h
  exact joinW_clean _ _ (name_solid _ (by omega)) (map_solid _)
theorem opLine_ne {o : O4} (h : okOp o = true) : opLine o ≠ [] := by
  obtain ⟨h1, h2, _⟩ := (okOp_iff o).1 h
  exact joinW_ne _ _ (name_solid _ (by omega))
theorem opLine_no10 {o : O4} (h : okOp o = true) : ∀ c ∈ opLine o, c ≠ 10 := by
  obtain ⟨h1, h2, _⟩ := (okOp_iff o).1 h
  exact fun c hc => (joinW_mem (name_solid _ (by omega)) (map_solid _) hc).2
theorem opOf_back {o : O4} (h : okOp o = true) : opOf o.k.toNat ((opArgs o).take (takesL o.k.toNat)) = o := by
  obtain ⟨h1, h2, h3⟩ := (okOp_iff o).1 h
  have ht := takesL_le o.k.toNat
  have hk : ((o.k.toNat : Nat) : Int) = o.k := by omega
  unfold opOf
  rw [hk]
  generalize takesL o.k.toNat = t at h3 ht
  obtain ⟨k, a, b, c⟩ := o
  simp only [opArgs] at h3 ⊢
  obtain rfl | rfl | rfl | rfl : t = 0 ∨ t = 1 ∨ t = 2 ∨ t = 3 := by omega
  all_goals simp at h3 ⊢
  · obtain ⟨rfl, rfl, rfl⟩ := h3; exact ⟨rfl, rfl, rfl⟩
  · obtain ⟨rfl, rfl⟩ := h3; exact ⟨rfl, rfl⟩
  · exact h3.symm
theorem readW_name (k : Nat) (hk : k < 16) (ws : List (List UInt8)) : readW (nameL k :: ws) = if ws.length = takesL k then (numsL ws).map (opOf k) else none := by
  rw [readW, idx_name k hk]
  by_cases h : ws.length = takesL k
  · rw [if_pos ⟨hk, h⟩, if_pos h]
  · rw [if_neg (fun e => h e.2), if_neg h]
theorem opLine_back {o : O4} (h : okOp o = true) (hs : smlO o) : readW (wordsL [] (opLine o)) = some o := by
  obtain ⟨h1, h2, _⟩ := (okOp_iff o).1 h
  have ht := takesL_le o.k.toNat
  have hk : o.k.toNat < 16 := by omega
  unfold opLine
  rw [wordsL_joinW _ _ (name_solid _ hk) (map_solid _), readW_name _ hk, if_pos (by simp [opArgs]; omega), numsL_itoa _ (by
    intro n hn
    have := List.mem_of_mem_take hn
    simp [opArgs] at this
    rcases this with rfl | rfl | rfl
    · exact hs.2.1
    · exact hs.2.2.1
    · exact hs.2.2.2)]
  rw [Option.map_some, opOf_back h]

/-! ### a program's text -/
def textOf (suf t : List UInt8) (os : List O4) : List UInt8 := titleP ++ (32 :: (t ++ (suf ++ (10 :: os.flatMap (fun o => opLine o ++ (suf ++ [10]))))))
def printB (t : ByteArray) (os : List O4) : Bool := fitsB (titB t) os && decide (bareL (lst t) = lst t) && os.all okOp
def printL (t : ByteArray) (os : List O4) : List UInt8 := if printB t os = true then textOf [] (lst t) os else []
theorem printB_iff (t : ByteArray) (os : List O4) : printB t os = true ↔ fitsB (titB t) os = true ∧ bareL (lst t) = lst t ∧ ∀ o ∈ os, okOp o = true := by
  unfold printB; simp [and_assoc]
/-- what may stand behind a line and is nothing -/
def remark (suf : List UInt8) : Prop := (∀ c ∈ suf, c ≠ 10) ∧ ∀ x, clean x → bareL (x ++ suf) = x
theorem remark_nil : remark [] := ⟨by simp, fun x hx => by rw [List.append_nil]; exact hx.bare⟩
theorem remark_tail (rem : List UInt8) (h : ∀ c ∈ rem, c ≠ 10) : remark (9 :: 32 :: 35 :: rem) := by
  refine ⟨fun c hc => ?_, fun x hx => bareL_tail x rem hx⟩
  simp only [List.mem_cons] at hc
  rcases hc with rfl | rfl | rfl | hc
  · decide
  · decide
  · decide
  · exact h c hc
theorem pgo_ops (suf : List UInt8) (hsuf : remark suf) : ∀ (os : List O4) (t : List UInt8) (acc : List O4) (n : Nat), t ≠ [] → (∀ o ∈ os, okOp o = true ∧ smlO o) → acc.length + os.length ≤ 64 →
    pgo t acc n [] (os.flatMap (fun o => opLine o ++ (suf ++ [10]))) = finL t (acc ++ os)
  | [], t, acc, n, _, _, _ => by rw [List.flatMap_nil, pgo_done, List.append_nil]
  | o :: os, t, acc, n, ht, ho, hl => by
    obtain ⟨h1, h2⟩ := ho o (by simp)
    have hc := opLine_clean h1
    have e : (opLine o ++ (suf ++ [10])) ++ os.flatMap (fun o => opLine o ++ (suf ++ [10])) = (opLine o ++ suf) ++ 10 :: os.flatMap (fun o => opLine o ++ (suf ++ [10])) := by simp
    rw [List.length_cons] at hl
    rw [List.flatMap_cons, e, pgo_line t t acc (acc ++ [o]) n (opLine o ++ suf) _ (by
      intro c hc2
      rw [List.mem_append] at hc2
      rcases hc2 with hc2 | hc2
      · exact opLine_no10 h1 c hc2
      · exact hsuf.1 c hc2) (by
      rw [hsuf.2 _ hc]
      unfold addL
      rw [if_neg (opLine_ne h1), if_neg ht, if_pos (by omega), opLine_back h1 h2]
      rfl)]
    rw [pgo_ops suf hsuf os t (acc ++ [o]) (n + 1) ht (fun p hp => ho p (by simp [hp])) (by simp; omega)]
    simp
theorem title_clean {t : List UInt8} (hc : clean t) (hne : t ≠ []) : clean (titleP ++ (32 :: t)) := by
  refine ⟨?_, ?_, ?_⟩
  · intro c hm
    simp only [titleP, List.mem_append, List.mem_cons, List.mem_nil_iff, or_false] at hm
    rcases hm with (rfl | rfl | rfl | rfl | rfl) | rfl | hm
    all_goals first | decide | exact hc.1 c hm
  · exact trimL_cons _ _ (by decide)
  · rcases List.eq_nil_or_concat t with h | ⟨q, d, h⟩
    · exact absurd h hne
    · rw [List.concat_eq_append] at h
      have hd := trimR_last hc.2.2 h
      have e : titleP ++ (32 :: t) = (titleP ++ (32 :: q)) ++ [d] := by rw [h]; simp
      rw [e]
      exact trimR_snoc _ _ hd
theorem title_back {t : List UInt8} (hc : clean t) (hne : t ≠ []) (ht : titB (str t) = true) : titleL (titleP ++ (32 :: t)) = some t := by
  have e1 : (titleP ++ (32 :: t)).take 5 = titleP := rfl
  have e2 : (titleP ++ (32 :: t)).drop 5 = 32 :: t := rfl
  have e3 : trimL (32 :: t) = t := by rw [trimL_blk _ _ (by decide)]; exact hc.2.1
  unfold titleL
  rw [e1, e2, e3]
  refine if_pos ⟨rfl, ?_, ht⟩
  intro e
  have := congrArg List.length e
  simp at this
theorem pgo_text (suf t : List UInt8) (os : List O4) (n : Nat) (hsuf : remark suf) (h : printB (str t) os = true) : pgo [] [] n [] (textOf suf t os) = .ok t os := by
  obtain ⟨h1, h2, h3⟩ := (printB_iff _ _).1 h
  have hl : lst (str t) = t := by simp [lst, str]
  rw [hl] at h2
  obtain ⟨f1, f2, f3, f4⟩ := (fitsB_iff _ _).1 h1
  have hc := bareL_clean t h2
  have hb := tit_bytes f1
  have hne : t ≠ [] := by
    intro e
    have := hb.1
    rw [e] at this
    exact absurd this (by decide)
  have hno := tit_no10 f1
  rw [hl] at hno
  have e : textOf suf t os = (titleP ++ (32 :: t) ++ suf) ++ 10 :: os.flatMap (fun o => opLine o ++ (suf ++ [10])) := by unfold textOf; simp
  rw [e, pgo_line [] t [] [] n _ _ (by
    intro c hm
    rw [List.mem_append] at hm
    rcases hm with hm | hm
    · simp only [titleP, List.mem_append, List.mem_cons, List.mem_nil_iff, or_false] at hm
      rcases hm with (rfl | rfl | rfl | rfl | rfl) | rfl | hm
      all_goals first | decide | exact hno c hm
    · exact hsuf.1 c hm) (by
    rw [hsuf.2 _ (title_clean hc hne)]
    unfold addL
    rw [if_neg (by simp [titleP]), if_pos rfl, title_back hc hne f1]
    rfl)]
  rw [pgo_ops suf hsuf os t [] (n + 1) hne (fun o ho => ⟨h3 o ho, f4 o ho⟩) (by simpa using f3), List.nil_append, finL, if_neg (by
    intro e0
    rw [e0] at f2
    simp at f2)]
theorem print_back {t : ByteArray} {os : List O4} (h : printB t os = true) : parseL (printL t os) = .ok (lst t) os := by
  unfold printL parseL
  rw [if_pos h]
  exact pgo_text [] (lst t) os 1 remark_nil (by rw [str_lst]; exact h)
theorem printL_ne {t : ByteArray} {os : List O4} : printL t os = [] ↔ printB t os = false := by
  unfold printL
  cases h : printB t os with
  | true => simp [textOf, titleP]
  | false => simp
/-- two programs that have texts have one text just if they are one -/
theorem printL_inj {t u : ByteArray} {x y : List O4} (h1 : printL t x ≠ []) (h2 : printL u y ≠ []) : printL t x = printL u y ↔ t = u ∧ x = y := by
  have k1 : printB t x = true := by
    cases h : printB t x with
    | true => rfl
    | false => exact absurd (printL_ne.2 h) h1
  have k2 : printB u y = true := by
    cases h : printB u y with
    | true => rfl
    | false => exact absurd (printL_ne.2 h) h2
  constructor
  · intro e
    have b1 := print_back k1
    rw [e, print_back k2] at b1
    injection b1 with e1 e2
    refine ⟨?_, e2.symm⟩
    rw [← str_lst t, ← str_lst u, e1]
  · rintro ⟨rfl, rfl⟩; rfl
end Go.Proofs.YthidkkjhpdcenaaDoor
