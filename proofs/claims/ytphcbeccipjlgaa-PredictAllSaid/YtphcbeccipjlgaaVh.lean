/- Rank and Chain, the program's and the reference's, of any kind. -/
import Derived.Test.YtphcbeccipjlgaaVg
import Derived.Test.YtphcbeccipjlgaaKr
namespace Go.Proofs.Ytphcbeccipjlgaa
set_option maxRecDepth 100000
open Go.RowKit Go.Maps
set_option linter.unusedVariables false
set_option linter.unusedSimpArgs false

section
variable {P : Program} {ops : Array Oper} {Q : Exit → Act → World → Prop} {md : Region.Mode} {S S' : World → Prop}
/-- from here on more holds -/
theorem wpAnyH_more (hs : ∀ w, S' w → S w) : ∀ (fuel : Nat) (listed : Array Bool) (a : Act) (w : World), wpAnyH P md ops Q S' fuel listed a w → wpAnyH P md ops Q S fuel listed a w
  | 0, _, _, _, h => h
  | fuel + 1, _, _, _, h => ⟨h.1, fun i hi => wpOp_mono (fun a' w' h' => ⟨hs w' h'.1, wpAnyH_more hs fuel _ a' w' h'.2⟩) (h.2 i hi)⟩
end
/-- a slice of the bytes R -/
def Res (e : Ending) (w' : World) (R : List UInt8) : Prop := ∃ A c, e = .returned (.slice A R.length c) ∧ RB w' w'.heap.size A R
theorem res_ob {w' : World} {base : Nat} {v : Value} {R : List UInt8} (h : OB w' base v R) : Res (.returned v) w' R := by
  obtain ⟨A, c, rfl, _, _, hr⟩ := h.form_n R.length rfl
  exact ⟨A, c, rfl, hr⟩
theorem res_nil (w' : World) : Res (.returned (.slice none 0 0)) w' [] := ⟨none, 0, rfl, RB.nil _ _ _⟩
def rkR (r : Bool) (b : Kd) (p : List UInt8) (m : Nat) : List UInt8 := if r then (rk (sc b p)).take m else []
def chR (r : Bool) (b : Kd) (p : List UInt8) (m : Nat) : List UInt8 := if r then chN b m p else []
theorem gen_kd {z o : Int} {X c : Nat} {A : Option Addr} {tb : List UInt8} {w : World} (h : mayB z o X = true) (ht : PM w A tb X c) : KM w (Kd.mk z.toNat o.toNat tb) A X c ∧ z = (((Kd.mk z.toNat o.toNat tb).k : Nat) : Int) ∧ o = (((Kd.mk z.toNat o.toNat tb).o : Nat) : Int) := by
  have hk := may_kd h ht.len
  exact ⟨⟨hk.1, ht.len, ht.nc, ht.cm, ht.t⟩, hk.2.1, hk.2.2⟩
theorem rank_gen (z o : Int) (A : Option Addr) (X c : Nat) (tb : List UInt8) (P : Option Addr) (p : List UInt8) (L pc : Nat) (k : Int) (w : World) (ht : PM w A tb X c) (hp : PM w P p L pc) (hl : L ≤ 900) (r : Bool) (hr : mayB z o X = r) (m : Nat) (hm : min (max k 0) 256 = (m : Int)) :
    Calls Try.prog 17 #[.agg #[.int .i64 z, .int .i64 o, .slice A X c], .slice P L pc, .int .i64 k] w fun e w' => Res e w' (rkR r ⟨z.toNat, o.toNat, tb⟩ p m) ∧ Below w.heap.size w w' := by
  cases r with
  | false => exact (rank_none z o A X c P L pc k w (Nat.le_trans ht.nc ht.cm) hr).mono fun e w' ⟨he, hb⟩ => ⟨by rw [he]; exact res_nil w', hb⟩
  | true =>
    obtain ⟨hk, hz, ho⟩ := gen_kd hr ht
    have hlen : ((rk (sc ⟨z.toNat, o.toNat, tb⟩ p)).take m).length = m := by rw [List.length_take, rk_len]; omega
    exact (rank_at _ z o hz ho A X c P p L pc k w hk hp (by omega) m hm _ rfl).mono fun e w' ⟨⟨g, he, _, hR⟩, hb⟩ => ⟨⟨some ⟨g, 0, none⟩, 256, by rw [he]; show _ = Ending.returned (.slice _ ((rk (sc ⟨z.toNat, o.toNat, tb⟩ p)).take m).length _); rw [hlen], hR⟩, hb⟩
theorem chain_gen (z o : Int) (A : Option Addr) (X c : Nat) (tb : List UInt8) (P : Option Addr) (p : List UInt8) (L pc : Nat) (k : Int) (w : World) (ht : PM w A tb X c) (hp : PM w P p L pc) (hl : L ≤ 900) (r : Bool) (hr : mayB z o X = r) (m : Nat) (hm : min (max k 0) 1000 = (m : Int)) :
    Calls Try.prog 19 #[.agg #[.int .i64 z, .int .i64 o, .slice A X c], .slice P L pc, .int .i64 k] w fun e w' => Res e w' (chR r ⟨z.toNat, o.toNat, tb⟩ p m) ∧ Below w.heap.size w w' := by
  cases r with
  | false => exact (chain_none z o A X c P L pc k w (Nat.le_trans ht.nc ht.cm) hr).mono fun e w' ⟨he, hb⟩ => ⟨by rw [he]; exact res_nil w', hb⟩
  | true =>
    obtain ⟨hk, hz, ho⟩ := gen_kd hr ht
    exact (chain_at _ z o hz ho A X c P p L pc k w hk hp hl m hm _ rfl).mono fun e w' ⟨⟨A', c', he, _, _, hR⟩, hb⟩ => ⟨⟨A', c', by rw [he]; show _ = Ending.returned (.slice _ (chN _ m p).length _); rw [chN_len], hR⟩, hb⟩
theorem rrank_gen (z o : Int) (A : Option Addr) (X c : Nat) (tb : List UInt8) (P : Option Addr) (p : List UInt8) (L pc : Nat) (k : Int) (w : World) (ht : PM w A tb X c) (hp : PM w P p L pc) (hl : L ≤ 900) (r : Bool) (hr : mayB z o X = r) (m : Nat) (hm : min (max k 0) 256 = (m : Int)) :
    Calls Try.prog 18 #[.agg #[.int .i64 z, .int .i64 o, .slice A X c], .slice P L pc, .int .i64 k] w fun e w' => Res e w' (rkR r ⟨z.toNat, o.toNat, tb⟩ p m) ∧ Below w.heap.size w w' := by
  cases r with
  | false => exact (rrank_none z o A X c P L pc k w (Nat.le_trans ht.nc ht.cm) false hr (.inl rfl)).mono fun e w' ⟨he, hb⟩ => ⟨by rw [he]; exact res_nil w', hb⟩
  | true =>
    by_cases hk1 : k < 1
    · obtain rfl : m = 0 := by omega
      exact (rrank_none z o A X c P L pc k w (Nat.le_trans ht.nc ht.cm) true hr (.inr hk1)).mono fun e w' ⟨he, hb⟩ => ⟨by rw [he]; show Res _ _ ((rk (sc ⟨z.toNat, o.toNat, tb⟩ p)).take 0); rw [List.take_zero]; exact res_nil w', hb⟩
    · obtain ⟨hk, hz, ho⟩ := gen_kd hr ht
      exact (rrank_any _ z o hz ho A X c P p L pc k w hk hp (by omega) (by omega) m (by omega)).mono fun e w' ⟨⟨v, he, ho⟩, hb⟩ => ⟨by rw [he]; exact res_ob ho, hb⟩
theorem rchain_gen (z o : Int) (A : Option Addr) (X c : Nat) (tb : List UInt8) (P : Option Addr) (p : List UInt8) (L pc : Nat) (k : Int) (w : World) (ht : PM w A tb X c) (hp : PM w P p L pc) (hl : L ≤ 900) (r : Bool) (hr : mayB z o X = r) (m : Nat) (hm : min (max k 0) 1000 = (m : Int)) :
    Calls Try.prog 20 #[.agg #[.int .i64 z, .int .i64 o, .slice A X c], .slice P L pc, .int .i64 k] w fun e w' => Res e w' (chR r ⟨z.toNat, o.toNat, tb⟩ p m) ∧ Below w.heap.size w w' := by
  cases r with
  | false => exact (rchain_none z o A X c P L pc k w (Nat.le_trans ht.nc ht.cm) hr).mono fun e w' ⟨he, hb⟩ => ⟨by rw [he]; exact res_nil w', hb⟩
  | true =>
    obtain ⟨hk, hz, ho⟩ := gen_kd hr ht
    exact (rchain_any _ z o hz ho A X c P p L pc k w hk hp hl m hm).mono fun e w' ⟨⟨v, he, ho⟩, hb⟩ => ⟨by rw [he]; exact res_ob ho, hb⟩
end Go.Proofs.Ytphcbeccipjlgaa
