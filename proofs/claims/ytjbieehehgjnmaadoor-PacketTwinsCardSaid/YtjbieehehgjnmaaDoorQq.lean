/- WALKS of the laws of layer 15: Cut, Decode and Unpacket by cases, tells. -/
import Derived.Test.YtjbieehehgjnmaaDoorQl
import Derived.Test.YtjbieehehgjnmaaDoorQp
namespace Go.Proofs.YtjbieehehgjnmaaDoor
set_option maxRecDepth 100000
open Go.RowKit
set_option linter.unusedVariables false
set_option linter.unusedSimpArgs false

set_option maxHeartbeats 1000000 in
theorem lcut_any (k f t id fi : Int) (A : Option Addr) (l : List UInt8) (n c : Nat) (ac fr su : Int) (w : World) (hn : l.length = n) (hc : n ≤ c) (hm : c ≤ maxLen) (X : Nat) (hX : (l.take 40).length = X) :
    Calls Tryd.prog 11 #[pkV k f t id fi A n c ac fr su] w fun e w' => e = .returned (pkV k f t id fi A X c ac fr su) ∧ Below w.heap.size w w' := by
  have HS := Lib.hid (fun W => short_n A l n c 40 W hn (by omega) hc hm X hX 40 rfl)
  clear hn hm hX
  go_enter Tryd.func11, Tryd.ntmps11
  go_wp2_with (first
    | (go_at_call 19; (with_reducible refine (HS.out _).mono ?_); rintro e w1 ⟨rfl, rfl⟩))
  refine bodyPost_ret (v := pkV k f t id fi A X c ac fr su) (by simp [results, Tryd.results11, go_sem]) rfl ⟨rfl, ?_⟩
  exact ((Below.refl _ _).alloc (Nat.le_refl _) _).alloc (by simp) _
theorem dec_yes (A : Option Addr) (l : List UInt8) (n c : Nat) (w : World) (hT : TabW w) (hr : RB w w.heap.size A l) (hn : l.length = n) (hc : n ≤ c) (hm : c ≤ maxLen) (hl : n ≤ 4096) (p : Pk) (hp : IsK l p) :
    Calls Tryd.prog 16 #[.slice A n c] w fun e w' => ∃ (A2 : Option Addr) (n2 c2 : Nat), e = .returned (.tuple #[pkV p.k p.f p.t p.id p.fi A2 n2 c2 p.ac p.fr p.su, .int .i64 0]) ∧ RB w' w'.heap.size A2 p.l ∧ p.l.length = n2 ∧ Below w.heap.size w w' :=
  (dec_run A l n c w hT hr hn hc hm hl).mono fun e w' ⟨h, hb⟩ => by
    rcases h with ⟨q, A2, n2, c2, hq, he, ho, hl2⟩ | ⟨hno, _⟩
    · obtain rfl := is_inj hq hp
      exact ⟨A2, n2, c2, he, ho.cells, hl2, hb⟩
    · exact absurd hp (hno p)
theorem dec_no (A : Option Addr) (l : List UInt8) (n c : Nat) (w : World) (hT : TabW w) (hr : RB w w.heap.size A l) (hn : l.length = n) (hc : n ≤ c) (hm : c ≤ maxLen) (hl : n ≤ 4096) (hp : ∀ p, ¬ IsK l p) :
    Calls Tryd.prog 16 #[.slice A n c] w fun e w' => e = .returned (.tuple #[pkV 0 0 0 0 0 none 0 0 0 0 0, .int .i64 1]) ∧ Below w.heap.size w w' :=
  (dec_run A l n c w hT hr hn hc hm hl).mono fun e w' ⟨h, hb⟩ => by
    rcases h with ⟨q, A2, n2, c2, hq, _⟩ | ⟨_, he⟩
    · exact absurd hq (hp q)
    · exact ⟨he, hb⟩
theorem unp_yes (A : Option Addr) (l : List UInt8) (n c : Nat) (w : World) (hr : RB w w.heap.size A l) (hn : l.length = n) (hc : n ≤ c) (hm : c ≤ maxLen) (hl : n ≤ 4096) (p : Pk) (hp : IsK l p) :
    Calls Tryd.prog 34 #[.slice A n c] w fun e w' => ∃ (A2 : Option Addr) (n2 c2 : Nat), e = .returned (.tuple #[pkV p.k p.f p.t p.id p.fi A2 n2 c2 p.ac p.fr p.su, .bool true]) ∧ RB w' w'.heap.size A2 p.l ∧ p.l.length = n2 ∧ Below w.heap.size w w' :=
  (unp_run A l n c w hr hn hc hm hl).mono fun e w' ⟨h, hb⟩ => by
    rcases h with ⟨q, A2, n2, c2, hq, he, ho, hl2⟩ | ⟨_, _, _, _, _, _, _, _, _, _, _, hno, _⟩
    · obtain rfl := is_inj hq hp
      exact ⟨A2, n2, c2, he, ho, hl2, hb⟩
    · exact absurd hp (hno p)
theorem unp_no (A : Option Addr) (l : List UInt8) (n c : Nat) (w : World) (hr : RB w w.heap.size A l) (hn : l.length = n) (hc : n ≤ c) (hm : c ≤ maxLen) (hl : n ≤ 4096) (hp : ∀ p, ¬ IsK l p) :
    Calls Tryd.prog 34 #[.slice A n c] w fun e w' => ∃ (k f t id fi : Int) (A2 : Option Addr) (n2 c2 : Nat) (ac fr su : Int), e = .returned (.tuple #[pkV k f t id fi A2 n2 c2 ac fr su, .bool false]) ∧ Below w.heap.size w w' :=
  (unp_run A l n c w hr hn hc hm hl).mono fun e w' ⟨h, hb⟩ => by
    rcases h with ⟨q, A2, n2, c2, hq, _⟩ | ⟨k, f, t, id, fi, A2, n2, c2, ac, fr, su, _, he⟩
    · exact absurd hq (hp q)
    · exact ⟨k, f, t, id, fi, A2, n2, c2, ac, fr, su, he, hb⟩
set_option maxHeartbeats 4000000 in
theorem tells_any (A : Option Addr) (l : List UInt8) (n c : Nat) (w : World) (hT : TabW w) (hr : RB w w.heap.size A l) (hn : l.length = n) (hc : n ≤ c) (hm : c ≤ maxLen) (hl : n ≤ 4096) :
    Calls Tryd.prog 18 #[.slice A n c] w fun e w' => e = .returned (.bool true) ∧ Below w.heap.size w w' := by
  by_cases hp : ∃ p, IsK l p
  · obtain ⟨p, hp⟩ := hp
    have HD := Lib.hid (dec_yes A l n c w hT hr hn hc hm hl p hp)
    have HU : Hid (∀ W, Below w.heap.size w W → Calls Tryd.prog 34 #[.slice A n c] W fun e w' => ∃ (A2 : Option Addr) (n2 c2 : Nat), e = .returned (.tuple #[pkV p.k p.f p.t p.id p.fi A2 n2 c2 p.ac p.fr p.su, .bool true]) ∧ RB w' w'.heap.size A2 p.l ∧ p.l.length = n2 ∧ Below W.heap.size W w') := fun W hb => unp_yes A l n c W (hr.next hb) hn hc hm hl p hp
    clear hT hr hn hc hm hl hp
    go_enter Tryd.func18, Tryd.ntmps18
    go_wp2_with fail
    (with_reducible refine HD.out.mono ?_)
    rintro e w1 ⟨A2, n2, c2, rfl, hr2, hl2, hb1⟩
    have a1 : Below w1.heap.size w1 (w1.alloc (pkO p.k p.f p.t p.id p.fi A2 n2 c2 p.ac p.fr p.su)) := (Below.refl _ _).alloc (Nat.le_refl _) _
    have HB2 := Lib.hid (hb1.trans (a1.mono hb1.size))
    have HU2 := Lib.hid (HU.out _ HB2.out)
    have HR2 := Lib.hid (hr2.next a1)
    have HP2 : Hid (PkM (w1.alloc (pkO p.k p.f p.t p.id p.fi A2 n2 c2 p.ac p.fr p.su)) w1.heap.size p.k p.f p.t p.id p.fi A2 n2 c2 p.ac p.fr p.su) := heap_alloc_new w1 _
    have HL2 := Lib.hid hl2
    have HS2 : Hid (w1.heap.size < (w1.alloc (pkO p.k p.f p.t p.id p.fi A2 n2 c2 p.ac p.fr p.su)).heap.size) := by show _ < _; simp
    clear hr2 hl2 hb1 a1 HD HU
    go_wp2_with fail
    (with_reducible refine HU2.out.mono ?_)
    rintro e w3 ⟨A4, n4, c4, rfl, hr4, hl4, hb3⟩
    have a3 : Below w3.heap.size w3 (w3.alloc (pkO p.k p.f p.t p.id p.fi A4 n4 c4 p.ac p.fr p.su)) := (Below.refl _ _).alloc (Nat.le_refl _) _
    have hb4 := hb3.trans (a3.mono hb3.size)
    have HEQ := Lib.hid (eqpacket_any p.k p.f p.t p.id p.fi A2 p.l n2 c2 p.ac p.fr p.su p.k p.f p.t p.id p.fi A4 p.l n4 c4 p.ac p.fr p.su _ (HR2.out.next hb4) (hr4.next a3) HL2.out hl4 true (by simp))
    have HB4 := Lib.hid (HB2.out.trans (hb4.mono HB2.out.size))
    obtain ⟨r0, r1, r2, r3, r4, r5, r6, r7, r8⟩ := (HP2.out.below hb4 HS2.out).c
    clear hr4 hl4 hb3 a3 hb4
    go_wp2_with (first
      | (go_at_call 17; (with_reducible refine HEQ.out.mono ?_); rintro e w5 ⟨rfl, rfl⟩))
    go_ret
    exact ⟨rfl, (HB4.out.alloc HB4.out.size _).alloc (HB4.out.alloc HB4.out.size _).size _⟩
  · have hno : ∀ p, ¬ IsK l p := fun p h => hp ⟨p, h⟩
    have HD := Lib.hid (dec_no A l n c w hT hr hn hc hm hl hno)
    have HU : Hid (∀ W, Below w.heap.size w W → Calls Tryd.prog 34 #[.slice A n c] W fun e w' => ∃ (k f t id fi : Int) (A2 : Option Addr) (n2 c2 : Nat) (ac fr su : Int), e = .returned (.tuple #[pkV k f t id fi A2 n2 c2 ac fr su, .bool false]) ∧ Below W.heap.size W w') := fun W hb => unp_no A l n c W (hr.next hb) hn hc hm hl hno
    clear hT hr hn hc hm hl hp hno
    go_enter Tryd.func18, Tryd.ntmps18
    go_wp2_with fail
    (with_reducible refine HD.out.mono ?_)
    rintro e w1 ⟨rfl, hb1⟩
    have a1 : Below w1.heap.size w1 (w1.alloc (pkO 0 0 0 0 0 none 0 0 0 0 0)) := (Below.refl _ _).alloc (Nat.le_refl _) _
    have HB2 := Lib.hid (hb1.trans (a1.mono hb1.size))
    have HU2 := Lib.hid (HU.out _ HB2.out)
    have HP2 : Hid (PkM (w1.alloc (pkO 0 0 0 0 0 none 0 0 0 0 0)) w1.heap.size 0 0 0 0 0 none 0 0 0 0 0) := heap_alloc_new w1 _
    have HS2 : Hid (w1.heap.size < (w1.alloc (pkO 0 0 0 0 0 none 0 0 0 0 0)).heap.size) := by show _ < _; simp
    clear hb1 a1 HD HU
    go_wp2_with fail
    (with_reducible refine HU2.out.mono ?_)
    rintro e w3 ⟨k4, f4, t4, id4, fi4, A4, n4, c4, ac4, fr4, su4, rfl, hb3⟩
    have a3 : Below w3.heap.size w3 (w3.alloc (pkO k4 f4 t4 id4 fi4 A4 n4 c4 ac4 fr4 su4)) := (Below.refl _ _).alloc (Nat.le_refl _) _
    have hb4 := hb3.trans (a3.mono hb3.size)
    have HB4 := Lib.hid (HB2.out.trans (hb4.mono HB2.out.size))
    obtain ⟨r0, r1, r2, r3, r4, r5, r6, r7, r8⟩ := (HP2.out.below hb4 HS2.out).c
    clear hb3 a3 hb4
    go_wp2_with fail
    go_ret
    exact ⟨rfl, HB4.out⟩
end Go.Proofs.YtjbieehehgjnmaaDoor
