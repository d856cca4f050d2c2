/- WALKS of the laws of layer 15: Cut, Decode and Unpacket by cases, tells. -/
import Derived.Test.YtclgcfofgiejgaaDoorQl
import Derived.Test.YtclgcfofgiejgaaDoorQp
namespace Go.Proofs.YtclgcfofgiejgaaDoor
set_option maxRecDepth 100000
open Go.RowKit
set_option linter.unusedVariables false
set_option linter.unusedSimpArgs false

theorem dec_yes (A : Option Addr) (l : List UInt8) (n c : Nat) (w : World) (hT : TabW w) (hr : RB w w.heap.size A l) (hn : l.length = n) (hc : n ≤ c) (hm : c ≤ maxLen) (hl : n ≤ 4096) (p : Pk) (hp : IsK l p) :
    Calls Tryd.prog 39 #[.slice A n c] w fun e w' => ∃ (A2 : Option Addr) (n2 c2 : Nat), e = .returned (.tuple #[pkV p.k p.f p.t p.id p.fi A2 n2 c2 p.ac p.fr p.su, .int .i64 0]) ∧ RB w' w'.heap.size A2 p.l ∧ p.l.length = n2 ∧ Below w.heap.size w w' :=
  (dec_run A l n c w hT hr hn hc hm hl).mono fun e w' ⟨h, hb⟩ => by
    rcases h with ⟨q, A2, n2, c2, hq, he, ho, hl2⟩ | ⟨hno, _⟩
    · obtain rfl := is_inj hq hp
      exact ⟨A2, n2, c2, he, ho.cells, hl2, hb⟩
    · exact absurd hp (hno p)
theorem dec_no (A : Option Addr) (l : List UInt8) (n c : Nat) (w : World) (hT : TabW w) (hr : RB w w.heap.size A l) (hn : l.length = n) (hc : n ≤ c) (hm : c ≤ maxLen) (hl : n ≤ 4096) (hp : ∀ p, ¬ IsK l p) :
    Calls Tryd.prog 39 #[.slice A n c] w fun e w' => e = .returned (.tuple #[pkV 0 0 0 0 0 none 0 0 0 0 0, .int .i64 1]) ∧ Below w.heap.size w w' :=
  (dec_run A l n c w hT hr hn hc hm hl).mono fun e w' ⟨h, hb⟩ => by
    rcases h with ⟨q, A2, n2, c2, hq, _⟩ | ⟨_, he⟩
    · exact absurd hq (hp q)
    · exact ⟨he, hb⟩
theorem unp_yes (A : Option Addr) (l : List UInt8) (n c : Nat) (w : World) (hr : RB w w.heap.size A l) (hn : l.length = n) (hc : n ≤ c) (hm : c ≤ maxLen) (hl : n ≤ 4096) (p : Pk) (hp : IsK l p) :
    Calls Tryd.prog 29 #[.slice A n c] w fun e w' => ∃ (A2 : Option Addr) (n2 c2 : Nat), e = .returned (.tuple #[pkV p.k p.f p.t p.id p.fi A2 n2 c2 p.ac p.fr p.su, .bool true]) ∧ RB w' w'.heap.size A2 p.l ∧ p.l.length = n2 ∧ Below w.heap.size w w' :=
  (unp_run A l n c w hr hn hc hm hl).mono fun e w' ⟨h, hb⟩ => by
    rcases h with ⟨q, A2, n2, c2, hq, he, ho, hl2⟩ | ⟨_, _, _, _, _, _, _, _, _, _, _, hno, _⟩
    · obtain rfl := is_inj hq hp
      exact ⟨A2, n2, c2, he, ho, hl2, hb⟩
    · exact absurd hp (hno p)
theorem unp_no (A : Option Addr) (l : List UInt8) (n c : Nat) (w : World) (hr : RB w w.heap.size A l) (hn : l.length = n) (hc : n ≤ c) (hm : c ≤ maxLen) (hl : n ≤ 4096) (hp : ∀ p, ¬ IsK l p) :
    Calls Tryd.prog 29 #[.slice A n c] w fun e w' => ∃ (k f t id fi : Int) (A2 : Option Addr) (n2 c2 : Nat) (ac fr su : Int), e = .returned (.tuple #[pkV k f t id fi A2 n2 c2 ac fr su, .bool false]) ∧ Below w.heap.size w w' :=
  (unp_run A l n c w hr hn hc hm hl).mono fun e w' ⟨h, hb⟩ => by
    rcases h with ⟨q, A2, n2, c2, hq, _⟩ | ⟨k, f, t, id, fi, A2, n2, c2, ac, fr, su, _, he⟩
    · exact absurd hq (hp q)
    · exact ⟨k, f, t, id, fi, A2, n2, c2, ac, fr, su, he, hb⟩
end Go.Proofs.YtclgcfofgiejgaaDoor
