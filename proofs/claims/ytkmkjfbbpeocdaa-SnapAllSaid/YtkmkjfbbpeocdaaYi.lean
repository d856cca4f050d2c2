/- SnapAll: any operation; same; the law's lists of operations. -/
import Derived.Test.YtkmkjfbbpeocdaaYe
import Derived.Test.YtkmkjfbbpeocdaaYf
import Derived.Test.YtkmkjfbbpeocdaaYg
import Derived.Test.YtkmkjfbbpeocdaaYh
namespace Go.Proofs.Ytkmkjfbbpeocdaa
set_option maxRecDepth 100000
open Go.RowKit Go.Maps
set_option linter.unusedVariables false
set_option linter.unusedSimpArgs false

theorem do_any (w0 w : World) (S P A M Bb : Nat) (N : Int) (m : Nat) (hm : m < 50) (hN : 0 ≤ N ∧ N ≤ 200) (D : DoR w0 w S P A M Bb N m) (kd kP kc kv : Int) (hP : rng kP) (hc : rng kc) (A0 : Option Addr) (ls : List Int) (capl : Nat) (hrl : RG w0 w0.heap.size A0 ls) (hcl : ls.length ≤ capl) (hml : capl ≤ maxLen) :
    Calls Try.prog 13 #[.pointer (some ⟨Bb, 0, none⟩), .pointer (some ⟨S, 0, none⟩), .agg #[.int .i64 kd, .int .i64 kP, .int .i64 kc, .int .i32 kv, .slice A0 ls.length capl]] w fun e w' => e = .returned (.bool true) ∧ DoR w0 w' S P A M Bb N (m + 1) := by
  by_cases h0 : kd = 0
  · subst h0; exact do_make w0 w S P A M Bb N m hm hN D kP kc kv hP hc A0 ls capl hrl hcl hml
  by_cases h1 : kd = 1
  · subst h1; exact do_fork w0 w S P A M Bb N m hm hN D kP kc kv hP hc _
  by_cases h2 : kd = 2
  · subst h2; exact do_hold w0 w S P A M Bb N m hm hN D kP kc kv hP hc _
  by_cases h3 : kd = 3
  · subst h3; exact do_drop w0 w S P A M Bb N m hm hN D kP kc kv hP hc _
  exact do_set w0 w S P A M Bb N m hm hN D kP kc kv hP hc _ kd h0 h1 h2 h3
theorem DoR.belows {w0 w w' : World} {S P A M Bb m : Nat} {N : Int} (D : DoR w0 w S P A M Bb N m) (hb : Below w.heap.size w w') : DoR w0 w' S P A M Bb N m := by
  obtain ⟨B, n, v, O, h1, h2, h3⟩ := D
  exact ⟨B, n, v, O, h1, h2, h3.belows hb⟩
theorem DoR.be {w0 w : World} {S P A M Bb m : Nat} {N : Int} (D : DoR w0 w S P A M Bb N m) : Below w0.heap.size w0 w := by
  obtain ⟨B, n, v, O, h1, h2, h3⟩ := D
  exact h3.be
theorem d_same {w0 w : World} {S P A M Bb m : Nat} {N : Int} (D : DoR w0 w S P A M Bb N m) (hm : m ≤ 50) :
    Calls Try.prog 14 #[.pointer (some ⟨Bb, 0, none⟩), .pointer (some ⟨S, 0, none⟩)] w fun e w' => e = .returned (.bool true) ∧ DoR w0 w' S P A M Bb N m := by
  have hD := D
  obtain ⟨B, n, v, O, h1, h2, h3⟩ := D
  have hF := h3
  obtain ⟨l, L, hx, ⟨⟨f, K⟩, hN⟩, _, _⟩ := h3
  exact (same_any w S P A M l L hx.sm hx.inv B n f K Bb v N hN.symm (h1.bm (fun x hx => hx) hF) (by have := h2.len; omega) (by have := h2.nx; omega) (fun k p hp => (h2.each k p hp).1)).mono fun e w' ⟨he, hb⟩ => ⟨he, hD.belows hb⟩
/-- the law's beginning: an empty book -/
theorem d_start {w0 w w' : World} {S P A M : Nat} {N : Nat} {n4 : Int} (h : Frm w0 w S P A M (Q0 N) []) (hn : n4 = N) (hb : Below w.heap.size w w') (Bb : Nat) (hx : w.heap.size ≤ Bb) (hx2 : w'.heap[Bb]? = some (bookO (.slice none 0 0) 0 n4)) : DoR w0 w' S P A M Bb n4 0 := by
  refine ⟨[], 0, _, _, .inl ⟨rfl, rfl, rfl⟩, ⟨by simp, by simp, fun k p hp => by simp at hp⟩, ?_⟩
  refine Frm.new (h.imp fun l L ⟨hL, _, hl⟩ => ?_) hb Bb _ hx hx2
  subst hL
  exact ⟨⟨id, BK.empty l⟩, by omega⟩
theorem mod5 (z : Int) (h : -9223372036854775808 ≤ z ∧ z ≤ 9223372036854775807) : ∃ n : Nat, n < 5 ∧ (z.tmod 5 + 5).tmod 5 = (n : Int) ∧ -5 < z.tmod 5 ∧ z.tmod 5 < 5 := by
  have h1 : -5 < z.tmod 5 ∧ z.tmod 5 < 5 := by
    rcases Int.le_total 0 z with hz | hz
    · rw [Int.tmod_eq_emod_of_nonneg hz]; omega
    · have e : z.tmod 5 = -((-z).tmod 5) := by rw [← Int.neg_tmod, Int.neg_neg]
      rw [e, Int.tmod_eq_emod_of_nonneg (by omega)]; omega
  refine ⟨((z.tmod 5 + 5).tmod 5).toNat, ?_, ?_, h1⟩
  · rw [Int.tmod_eq_emod_of_nonneg (by omega)]; omega
  · rw [Int.tmod_eq_emod_of_nonneg (by omega)]; omega
end Go.Proofs.Ytkmkjfbbpeocdaa
