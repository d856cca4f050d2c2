/- MERGED of XMe XMf XMg XMh -/
import Derived.Test.YtbmhdinaofepdaaMd
import Derived.BigQuiet
import Derived.Deep.RegionHeld3
/- XMe -/
namespace Go.Proofs.Ytbmhdinaofepdaa
set_option maxRecDepth 100000
open Go.RowKit
set_option linter.unusedVariables false

/-- the machine and its memory -/
structure Mach (K : MemK) (w : World) (xb b : Nat) (g : List Int) (E : Env) (A : Option Addr) (n c : Nat) (PA : Option Addr) (pc : Nat) : Prop where
  ok : MemOK K
  x : XM w xb E.t A n c (.iface K.T (.pointer (some ⟨b, 0, none⟩))) E.fr PA E.l.length pc
  h : GH w b K.t g K.rs
  g : gam g
  l : RB w w.heap.size PA E.l
  pl : E.l.length ≤ pc
  pm : pc ≤ maxLen
  ts : E.t.size ≤ maxLen
  ne : xb ≠ b
theorem Mach.alloc {K : MemK} {w : World} {xb b : Nat} {g : List Int} {E : Env} {A : Option Addr} {n c : Nat} {PA : Option Addr} {pc : Nat} (M : Mach K w xb b g E A n c PA pc) (o : Obj) : Mach K (w.alloc o) xb b g E A n c PA pc :=
  ⟨M.ok, M.x.alloc o, M.h.alloc o, M.g, (M.l.below ((Below.refl w.heap.size w).alloc (Nat.le_refl _) o)).more (by simp), M.pl, M.pm, M.ts, M.ne⟩
theorem Mach.drewN {K : MemK} {w : World} {xb b : Nat} {g : List Int} {E : Env} {A : Option Addr} {n c : Nat} {PA : Option Addr} {pc : Nat} (M : Mach K w xb b g E A n c PA pc) (m : Nat) : Mach K (w.drewN m) xb b g E A n c PA pc := ⟨M.ok, M.x, M.h, M.g, M.l, M.pl, M.pm, M.ts, M.ne⟩
theorem Mach.drew {K : MemK} {w : World} {xb b : Nat} {g : List Int} {E : Env} {A : Option Addr} {n c : Nat} {PA : Option Addr} {pc : Nat} (M : Mach K w xb b g E A n c PA pc) : Mach K w.drew xb b g E A n c PA pc := ⟨M.ok, M.x, M.h, M.g, M.l, M.pl, M.pm, M.ts, M.ne⟩

theorem value_mov (K : MemK) (w : World) (xb b : Nat) (g : List Int) (E : Env) (A : Option Addr) (n c : Nat) (PA : Option Addr) (pc : Nat) (M : Mach K w xb b g E A n c PA pc) (oa ob oc : Int) (b0 : 0 ≤ ob) (b1 : ob < 32) :
    Calls Try.prog 39 #[.pointer (some ⟨xb, 0, none⟩), .agg #[.int .i64 2, .int .i64 oa, .int .i64 ob, .int .i64 oc]] w fun e w' => e = .returned (.int .i32 (cel g ob)) ∧ Below w.heap.size w w' := by
  have b0w : Below w.heap.size w (w.alloc (.cells #[.int .i64 2, .int .i64 oa, .int .i64 ob, .int .i64 oc] 46)) := (Below.refl _ _).alloc (Nat.le_refl _) _
  have M1 := M.alloc (.cells #[.int .i64 2, .int .i64 oa, .int .i64 ob, .int .i64 oc] 46)
  have HG := Lib.hid (fun m => M.ok.get b g ob _ (M1.drewN m).h M.g.1 b0 b1)
  have hm := M.ok.mget
  have hc := M.ok.cget
  have x2 := M1.x.c2
  clear M M1
  go_enter Try.func39, Try.ntmps39
  go_wp2_with fail
  go_quiet (with_reducible exact same_left (HG.out _))
  go_wp2
  go_ret
  exact ⟨rfl, below_drewN b0w _⟩

theorem value_set (K : MemK) (w : World) (xb b : Nat) (g : List Int) (E : Env) (A : Option Addr) (n c : Nat) (PA : Option Addr) (pc : Nat) (M : Mach K w xb b g E A n c PA pc) (oa ob oc : Int) (b0 : -2147483648 ≤ ob) (b1 : ob ≤ 2147483647) :
    Calls Try.prog 39 #[.pointer (some ⟨xb, 0, none⟩), .agg #[.int .i64 1, .int .i64 oa, .int .i64 ob, .int .i64 oc]] w fun e w' => e = .returned (.int .i32 (ob)) ∧ Below w.heap.size w w' := by
  have b0w : Below w.heap.size w (w.alloc (.cells #[.int .i64 1, .int .i64 oa, .int .i64 ob, .int .i64 oc] 46)) := (Below.refl _ _).alloc (Nat.le_refl _) _
  have M1 := M.alloc (.cells #[.int .i64 1, .int .i64 oa, .int .i64 ob, .int .i64 oc] 46)

  clear M M1
  go_enter Try.func39, Try.ntmps39
  go_wp2
  go_ret
  exact ⟨rfl, b0w⟩
theorem value_in (K : MemK) (w : World) (xb b : Nat) (g : List Int) (E : Env) (A : Option Addr) (n c : Nat) (PA : Option Addr) (pc : Nat) (M : Mach K w xb b g E A n c PA pc) (oa ob oc : Int) (b0 : 0 ≤ ob) (b1 : ob < 32) :
    Calls Try.prog 39 #[.pointer (some ⟨xb, 0, none⟩), .agg #[.int .i64 11, .int .i64 oa, .int .i64 ob, .int .i64 oc]] w fun e w' => e = .returned (.int .i32 (pressN E.l (cel g ob))) ∧ Below w.heap.size w w' := by
  have b0w : Below w.heap.size w (w.alloc (.cells #[.int .i64 11, .int .i64 oa, .int .i64 ob, .int .i64 oc] 46)) := (Below.refl _ _).alloc (Nat.le_refl _) _
  have M1 := M.alloc (.cells #[.int .i64 11, .int .i64 oa, .int .i64 ob, .int .i64 oc] 46)
  have HG := Lib.hid (fun m => M.ok.get b g ob _ (M1.drewN m).h M.g.1 b0 b1)
  have hm := M.ok.mget
  have hc := M.ok.cget
  have x2 := M1.x.c2
  obtain ⟨c0, c1⟩ := M.g.cel ob
  have HP := Lib.hid (fun m => vpressed_any xb PA E.l pc _ (cel g ob) _ (M1.drewN m).x.c4 (M1.drewN m).l M.pl M.pm (M.g.cel ob))
  clear M M1
  go_enter Try.func39, Try.ntmps39
  go_wp2_with fail
  go_quiet (first | (go_at_call 45; with_reducible exact same_left (HP.out _)) | (with_reducible exact same_left (HG.out _)))
  go_wp2
  go_ret
  exact ⟨rfl, below_drewN b0w _⟩
theorem value_load (K : MemK) (w : World) (xb b : Nat) (g : List Int) (E : Env) (A : Option Addr) (n c : Nat) (PA : Option Addr) (pc : Nat) (M : Mach K w xb b g E A n c PA pc) (oa ob oc : Int) (b0 : 0 ≤ ob) (b1 : ob < 32) :
    Calls Try.prog 39 #[.pointer (some ⟨xb, 0, none⟩), .agg #[.int .i64 12, .int .i64 oa, .int .i64 ob, .int .i64 oc]] w fun e w' => e = .returned (.int .i32 (cel g (md (cel g ob) 32))) ∧ Below w.heap.size w w' := by
  have b0w : Below w.heap.size w (w.alloc (.cells #[.int .i64 12, .int .i64 oa, .int .i64 ob, .int .i64 oc] 46)) := (Below.refl _ _).alloc (Nat.le_refl _) _
  have M1 := M.alloc (.cells #[.int .i64 12, .int .i64 oa, .int .i64 ob, .int .i64 oc] 46)
  have HG := Lib.hid (fun m => M.ok.get b g (md (cel g ob) 32) _ (M1.drewN m).h M.g.1 (md32 _).1 (md32 _).2)
  have HT := Lib.hid (fun m => told_any K M.ok xb b g ob _ (M1.drewN m).x.c2 (M1.drewN m).h M.g b0 b1)
  have hm := M.ok.mget
  have hc := M.ok.cget
  have x2 := M1.x.c2
  clear M M1
  go_enter Try.func39, Try.ntmps39
  go_wp2_with fail
  go_quiet (first | (go_at_call 38; with_reducible exact same_left (HT.out _)) | (with_reducible exact same_left (HG.out _)))
  go_wp2
  go_ret
  exact ⟨rfl, below_drewN b0w _⟩
theorem value_time (K : MemK) (w : World) (xb b : Nat) (g : List Int) (E : Env) (A : Option Addr) (n c : Nat) (PA : Option Addr) (pc : Nat) (M : Mach K w xb b g E A n c PA pc) (oa ob oc : Int) :
    Calls Try.prog 39 #[.pointer (some ⟨xb, 0, none⟩), .agg #[.int .i64 15, .int .i64 oa, .int .i64 ob, .int .i64 oc]] w fun e w' => e = .returned (.int .i32 (rd E.fr)) ∧ Below w.heap.size w w' := by
  have b0w : Below w.heap.size w (w.alloc (.cells #[.int .i64 15, .int .i64 oa, .int .i64 ob, .int .i64 oc] 46)) := (Below.refl _ _).alloc (Nat.le_refl _) _
  have M1 := M.alloc (.cells #[.int .i64 15, .int .i64 oa, .int .i64 ob, .int .i64 oc] 46)
  have x3 := M1.x.c3
  clear M M1
  go_enter Try.func39, Try.ntmps39
  go_wp2
  go_ret
  exact ⟨ret_i32 (rd_wrap _), b0w⟩
theorem value_reck (K : MemK) (w : World) (xb b : Nat) (g : List Int) (E : Env) (A : Option Addr) (n c : Nat) (PA : Option Addr) (pc : Nat) (M : Mach K w xb b g E A n c PA pc) (oa ob oc : Int) (k : Int) (k0 : 3 ≤ k) (k1 : k ≤ 8) (b0 : 0 ≤ ob) (b1 : ob < 32) (d0 : 0 ≤ oc) (d1 : oc < 32) :
    Calls Try.prog 39 #[.pointer (some ⟨xb, 0, none⟩), .agg #[.int .i64 k, .int .i64 oa, .int .i64 ob, .int .i64 oc]] w fun e w' => e = .returned (.int .i32 (reckN k (cel g ob) (cel g oc))) ∧ Below w.heap.size w w' := by
  have b0w : Below w.heap.size w (w.alloc (.cells #[.int .i64 k, .int .i64 oa, .int .i64 ob, .int .i64 oc] 46)) := (Below.refl _ _).alloc (Nat.le_refl _) _
  have M1 := M.alloc (.cells #[.int .i64 k, .int .i64 oa, .int .i64 ob, .int .i64 oc] 46)
  have HG := Lib.hid (fun m => M.ok.get b g ob _ (M1.drewN m).h M.g.1 b0 b1)
  have hm := M.ok.mget
  have hc := M.ok.cget
  have x2 := M1.x.c2
  have HG2 := Lib.hid (fun m => M.ok.get b g oc _ (M1.drewN m).h M.g.1 d0 d1)
  have HR := Lib.hid (fun m => vreckon_any k (cel g ob) (cel g oc) ((w.alloc (.cells #[.int .i64 k, .int .i64 oa, .int .i64 ob, .int .i64 oc] 46)).drewN m) k0 k1 (M.g.cel ob) (M.g.cel oc))
  have e1 : (k == 1) = false := by rw [beq_eq_false_iff_ne]; omega
  have e2 : (k == 2) = false := by rw [beq_eq_false_iff_ne]; omega
  have e3 : (k == 11) = false := by rw [beq_eq_false_iff_ne]; omega
  have e4 : (k == 12) = false := by rw [beq_eq_false_iff_ne]; omega
  have e5 : (k == 14) = false := by rw [beq_eq_false_iff_ne]; omega
  have e6 : (k == 15) = false := by rw [beq_eq_false_iff_ne]; omega
  clear M M1
  go_enter Try.func39, Try.ntmps39
  go_wp2_with fail
  go_quiet (first | (go_at_call 47; with_reducible exact same_left (HR.out _)) | (with_reducible exact same_left (HG.out _)) | (with_reducible exact same_left (HG2.out _)))
  go_wp2
  go_ret
  exact ⟨rfl, below_drewN b0w _⟩
end Go.Proofs.Ytbmhdinaofepdaa

/- XMf -/
namespace Go.Proofs.Ytbmhdinaofepdaa
set_option maxRecDepth 100000
open Go.RowKit
set_option linter.unusedVariables false

set_option maxHeartbeats 400000 in
theorem value_rune (K : MemK) (w : World) (xb b : Nat) (g : List Int) (E : Env) (A : Option Addr) (n c : Nat) (PA : Option Addr) (pc : Nat) (M : Mach K w xb b g E A n c PA pc) (oa ob oc : Int) (b0 : 0 ≤ ob) (b1 : ob < 32) :
    Calls Try.prog 39 #[.pointer (some ⟨xb, 0, none⟩), .agg #[.int .i64 14, .int .i64 oa, .int .i64 ob, .int .i64 oc]] w fun e w' => e = .returned (.int .i32 (atR E.t (cel g ob))) ∧ Below w.heap.size w w' := by
  have b0w : Below w.heap.size w (w.alloc (.cells #[.int .i64 14, .int .i64 oa, .int .i64 ob, .int .i64 oc] 46)).drew := ((Below.refl _ _).alloc (Nat.le_refl _) _).drew
  have M1 := (M.alloc (.cells #[.int .i64 14, .int .i64 oa, .int .i64 ob, .int .i64 oc] 46)).drew
  have HG := Lib.hid (M.ok.get b g ob _ M1.h M.g.1 b0 b1)
  have hm := M.ok.mget
  have hc := M.ok.cget
  have x0 := M1.x.c0
  have x2 := M1.x.c2
  have o2 : (w.alloc (.cells #[.int .i64 14, .int .i64 oa, .int .i64 ob, .int .i64 oc] 46)).drew.cell? ⟨w.heap.size, 2, none⟩ = some (.int .i64 ob) := (op_box w 14 oa ob oc 46).2.2.1
  have HO := Lib.hid (fun W (hb : Below (w.alloc (.cells #[.int .i64 14, .int .i64 oa, .int .i64 ob, .int .i64 oc] 46)).drew.heap.size (w.alloc (.cells #[.int .i64 14, .int .i64 oa, .int .i64 ob, .int .i64 oc] 46)).drew W) => And.intro ((hb.cell (p := ⟨xb, 0, none⟩) (cell_lt x0)).trans x0) (And.intro ((hb.cell (p := ⟨xb, 2, none⟩) (cell_lt x2)).trans x2) ((hb.cell (p := ⟨w.heap.size, 2, none⟩) (cell_lt o2)).trans o2)))
  obtain ⟨c0, c1⟩ := M.g.cel ob
  have HA := Lib.hid (at_any E.t (cel g ob) (w.alloc (.cells #[.int .i64 14, .int .i64 oa, .int .i64 ob, .int .i64 oc] 46)).drew M.ts)
  have hsz : w.heap.size ≤ (w.alloc (.cells #[.int .i64 14, .int .i64 oa, .int .i64 ob, .int .i64 oc] 46)).drew.heap.size := by simp
  have hwr : IntKind.i64.wrap (cel g ob) = cel g ob := by rw [IntKind.wrap_i64]; omega
  clear M M1
  go_enter Try.func39, Try.ntmps39
  go_wp2_with fail
  go_region_held3 (fun w' => w'.cell? ⟨xb, 0, none⟩ = some (.string E.t) ∧ w'.cell? ⟨xb, 2, none⟩ = some (.iface K.T (.pointer (some ⟨b, 0, none⟩))) ∧ w'.cell? ⟨w.heap.size, 2, none⟩ = some (.int .i64 ob)) (first | exact ⟨by assumption, by assumption, by assumption⟩ | go_keep)
    (first
      | (go_at_call 46; with_reducible refine HA.out.mono ?_; rintro e w4 ⟨rfl, hba⟩; obtain ⟨p0, p1, p2⟩ := HO.out _ hba)
      | (with_reducible refine HG.out.mono ?_; rintro e w4 ⟨rfl, rfl⟩))
  go_wp2
  go_ret
  exact ⟨rfl, b0w.trans (hba.mono hsz)⟩
end Go.Proofs.Ytbmhdinaofepdaa

/- XMg -/
namespace Go.Proofs.Ytbmhdinaofepdaa
set_option maxRecDepth 100000
open Go.RowKit
set_option linter.unusedVariables false

theorem value_any (K : MemK) (w : World) (xb b : Nat) (g : List Int) (E : Env) (A : Option Addr) (n c : Nat) (PA : Option Addr) (pc : Nat) (M : Mach K w xb b g E A n c PA pc) (o : O4) (N : Nat) (hm : MayO o N) (hs : sml o.b)
    (h0 : o.k ≠ 0) (h9 : o.k ≠ 9) (h10 : o.k ≠ 10) (h13 : o.k ≠ 13) :
    Calls Try.prog 39 #[.pointer (some ⟨xb, 0, none⟩), opV o] w fun e w' => e = .returned (.int .i32 (valN E g o)) ∧ Below w.heap.size w w' := by
  have ⟨m0, m1, ma, mj, mb, mz, mc⟩ := hm
  obtain ⟨k, oa, ob, oc⟩ := o
  simp only at *
  unfold opV
  by_cases e : 3 ≤ k ∧ k ≤ 8
  · have := mb h0 (by omega) h9 h10 (by omega)
    have h2 := mc e.1 e.2
    have hv : valN E g ⟨k, oa, ob, oc⟩ = reckN k (cel g ob) (cel g oc) := by
      unfold valN
      simp only
      rw [if_neg (by omega), if_neg (by omega), if_neg (by omega), if_neg (by omega), if_neg (by omega), if_neg (by omega)]
    rw [hv]
    exact value_reck K w xb b g E A n c PA pc M oa ob oc k e.1 e.2 this.1 this.2 h2.1 h2.2
  · obtain rfl | rfl | rfl | rfl | rfl | rfl : k = 1 ∨ k = 2 ∨ k = 11 ∨ k = 12 ∨ k = 14 ∨ k = 15 := by omega
    · exact value_set K w xb b g E A n c PA pc M oa ob oc hs.1 hs.2
    · have := mb h0 (by omega) h9 h10 (by omega)
      exact value_mov K w xb b g E A n c PA pc M oa ob oc this.1 this.2
    · have := mb h0 (by omega) h9 h10 (by omega)
      exact value_in K w xb b g E A n c PA pc M oa ob oc this.1 this.2
    · have := mb h0 (by omega) h9 h10 (by omega)
      exact value_load K w xb b g E A n c PA pc M oa ob oc this.1 this.2
    · have := mb h0 (by omega) h9 h10 (by omega)
      exact value_rune K w xb b g E A n c PA pc M oa ob oc this.1 this.2
    · exact value_time K w xb b g E A n c PA pc M oa ob oc

/-- two growths behind one another -/
theorem grown_trans {a b c : World} {r : Option Nat} (h : a.grownBy b r) (k : b.grownBy c r) : a.grownBy c r :=
  ⟨k.os.trans h.os, k.tape.trans h.tape, k.output.trans h.output, Nat.le_trans h.size k.size, fun i hi hr => (k.block i (Nat.lt_of_lt_of_le hi h.size) hr).trans (h.block i hi hr)⟩
theorem grown_below {a b : World} {r : Option Nat} (h : Below a.heap.size a b) : a.grownBy b r := ⟨h.os, h.tape, h.output, h.size, fun i hi _ => h.block i hi⟩
theorem grown_set (w : World) (a : Addr) (v : Value) : w.grownBy (w.setCell a v) (some a.block) := ⟨rfl, rfl, rfl, by simp [World.setCell], fun k hk hne => Below.heap_setCell _ _ _ _ (fun e => hne (by rw [e]))⟩
theorem grown_drew (w : World) (r : Option Nat) : w.grownBy w.drew r := ⟨rfl, rfl, rfl, Nat.le_refl _, fun _ _ _ => rfl⟩

theorem grown_drewN (w : World) (n : Nat) (r : Option Nat) : w.grownBy (w.drewN n) r := ⟨rfl, rfl, rfl, Nat.le_refl _, fun _ _ _ => rfl⟩

/-- what do leaves -/
def DoneP (K : MemK) (w : World) (b : Nat) (E : Env) (g : List Int) (n p : Nat) (o : O4) (e : Ending) (w' : World) : Prop :=
  e = .returned (.int .i64 (nxtN n g p o : Nat)) ∧ GH w' b K.t (gmN E g o) K.rs ∧ w.grownBy w' (some b)

theorem do_halt (K : MemK) (w : World) (xb b : Nat) (g : List Int) (E : Env) (A : Option Addr) (c : Nat) (PA : Option Addr) (pc : Nat) (os : List O4) (M : Mach K w xb b g E A os.length c PA pc) (hr : RO w w.heap.size A os) (hl : os.length ≤ 64) (p : Nat) (hp : p < os.length) (hk : (os[p]'hp).k = 0) :
    Calls Try.prog 33 #[.pointer (some ⟨xb, 0, none⟩), .int .i64 (p : Int)] w (DoneP K w b E g os.length p os[p]) := by
  obtain ⟨ob, off, rfl, hbB, hcell⟩ := hr (by omega)
  obtain ⟨q1, q2, q3, q4⟩ := hcell p hp
  clear hcell
  have hn : Hid (nxtN os.length g p os[p] = os.length) := by unfold Hid nxtN; rw [if_pos hk]
  have hg : Hid (gmN E g os[p] = g) := by unfold Hid gmN; rw [if_pos (.inl hk)]
  rw [hk] at q1
  clear hk
  generalize os[p]'hp = o at *
  obtain ⟨k, oa, obb, oc⟩ := o
  simp only at q1 q2 q3 q4
  have b0w : w.grownBy (w.alloc (.cells #[.int .i64 0, .int .i64 oa, .int .i64 obb, .int .i64 oc] 46)) (some b) := World.grownBy_alloc w _ _
  have M1 := M.alloc (.cells #[.int .i64 0, .int .i64 oa, .int .i64 obb, .int .i64 oc] 46)
  have x1 := M.x.c1
  have y1 := M1.x.c1
  have HH := Lib.hid M1.h
  clear M M1 hr
  have hpc : (p : Int) < (os.length : Int) := by omega
  go_enter Try.func33, Try.ntmps33
  go_wp2
  go_ret
  exact ⟨ret_i64 (by rw [hn.out]), by rw [hg.out]; exact HH.out, b0w⟩
theorem do_jump (K : MemK) (w : World) (xb b : Nat) (g : List Int) (E : Env) (A : Option Addr) (c : Nat) (PA : Option Addr) (pc : Nat) (os : List O4) (M : Mach K w xb b g E A os.length c PA pc) (hr : RO w w.heap.size A os) (hl : os.length ≤ 64) (p : Nat) (hp : p < os.length) (hmo : MayO os[p] os.length) (hk : (os[p]'hp).k = 9) :
    Calls Try.prog 33 #[.pointer (some ⟨xb, 0, none⟩), .int .i64 (p : Int)] w (DoneP K w b E g os.length p os[p]) := by
  obtain ⟨bb, off, rfl, hbB, hcell⟩ := hr (by omega)
  obtain ⟨q1, q2, q3, q4⟩ := hcell p hp
  clear hcell
  have hn : Hid (nxtN os.length g p os[p] = os[p].a.toNat) := by unfold Hid nxtN; rw [if_neg (by omega), if_pos hk]
  have hg : Hid (gmN E g os[p] = g) := by unfold Hid gmN; rw [if_pos (.inr (.inl hk))]
  have ⟨m0, m1, ma, mj, mb, mz, mc⟩ := hmo
  rw [hk] at q1
  generalize os[p]'hp = o at *
  obtain ⟨k, oa, ob, oc⟩ := o
  simp only at *
  have b0w : w.grownBy (w.alloc (.cells #[.int .i64 9, .int .i64 oa, .int .i64 ob, .int .i64 oc] 46)) (some b) := World.grownBy_alloc w _ _
  have M1 := M.alloc (.cells #[.int .i64 9, .int .i64 oa, .int .i64 ob, .int .i64 oc] 46)
  have x1 := M.x.c1
  obtain ⟨j0, j1⟩ := mj hk
  have HJ : Hid (oa = (oa.toNat : Int)) := by unfold Hid; omega
  have HH := Lib.hid M1.h
  clear M M1 hr hk hmo ma mj mb mz mc m0 m1
  have hpc : (p : Int) < (os.length : Int) := by omega
  go_enter Try.func33, Try.ntmps33
  go_wp2
  go_ret
  exact ⟨ret_i64 (by rw [hn.out]; exact HJ.out), by rw [hg.out]; exact HH.out, b0w⟩
theorem do_zero (K : MemK) (w : World) (xb b : Nat) (g : List Int) (E : Env) (A : Option Addr) (c : Nat) (PA : Option Addr) (pc : Nat) (os : List O4) (M : Mach K w xb b g E A os.length c PA pc) (hr : RO w w.heap.size A os) (hl : os.length ≤ 64) (p : Nat) (hp : p < os.length) (hmo : MayO os[p] os.length) (hk : (os[p]'hp).k = 10) (hz : cel g (os[p]'hp).a = 0) :
    Calls Try.prog 33 #[.pointer (some ⟨xb, 0, none⟩), .int .i64 (p : Int)] w (DoneP K w b E g os.length p os[p]) := by
  obtain ⟨bb, off, rfl, hbB, hcell⟩ := hr (by omega)
  obtain ⟨q1, q2, q3, q4⟩ := hcell p hp
  clear hcell
  have hn : Hid (nxtN os.length g p os[p] = os[p].b.toNat) := by unfold Hid nxtN; rw [if_neg (by omega), if_neg (by omega), if_pos ⟨hk, hz⟩]
  have hg : Hid (gmN E g os[p] = g) := by unfold Hid gmN; rw [if_pos (.inr (.inr hk))]
  have ⟨m0, m1, ma, mj, mb, mz, mc⟩ := hmo
  rw [hk] at q1
  generalize os[p]'hp = o at *
  obtain ⟨k, oa, ob, oc⟩ := o
  simp only at *
  have b0w : w.grownBy (w.alloc (.cells #[.int .i64 10, .int .i64 oa, .int .i64 ob, .int .i64 oc] 46)) (some b) := World.grownBy_alloc w _ _
  have M1 := M.alloc (.cells #[.int .i64 10, .int .i64 oa, .int .i64 ob, .int .i64 oc] 46)
  have x1 := M.x.c1
  obtain ⟨a0, a1⟩ := ma (by omega) (by omega)
  obtain ⟨j0, j1⟩ := mz hk
  have HJ : Hid (ob = (ob.toNat : Int)) := by unfold Hid; omega
  have HH := Lib.hid M1.h
  have HG := Lib.hid (fun m => M.ok.get b g oa _ (M1.drewN m).h M.g.1 a0 a1)
  have hm := M.ok.mget
  have hc := M.ok.cget
  have x2 := M1.x.c2
  have hzb : (cel g oa == 0) = true := by rw [beq_iff_eq]; exact hz
  clear M M1 hr hk hmo ma mj mb mz mc m0 m1 hz
  have hpc : (p : Int) < (os.length : Int) := by omega
  go_enter Try.func33, Try.ntmps33
  go_wp2_with fail
  go_quiet (with_reducible exact same_left (HG.out _))
  go_wp2
  go_ret
  exact ⟨ret_i64 (by rw [hn.out]; exact HJ.out), by rw [hg.out]; exact HH.out, grown_trans b0w (grown_drewN _ _ _)⟩
theorem do_past (K : MemK) (w : World) (xb b : Nat) (g : List Int) (E : Env) (A : Option Addr) (c : Nat) (PA : Option Addr) (pc : Nat) (os : List O4) (M : Mach K w xb b g E A os.length c PA pc) (hr : RO w w.heap.size A os) (hl : os.length ≤ 64) (p : Nat) (hp : p < os.length) (hmo : MayO os[p] os.length) (hk : (os[p]'hp).k = 10) (hz : ¬ cel g (os[p]'hp).a = 0) :
    Calls Try.prog 33 #[.pointer (some ⟨xb, 0, none⟩), .int .i64 (p : Int)] w (DoneP K w b E g os.length p os[p]) := by
  obtain ⟨bb, off, rfl, hbB, hcell⟩ := hr (by omega)
  obtain ⟨q1, q2, q3, q4⟩ := hcell p hp
  clear hcell
  have hn : Hid (nxtN os.length g p os[p] = p + 1) := by unfold Hid nxtN; rw [if_neg (by omega), if_neg (by omega), if_neg (fun h => hz h.2)]
  have hg : Hid (gmN E g os[p] = g) := by unfold Hid gmN; rw [if_pos (.inr (.inr hk))]
  have ⟨m0, m1, ma, mj, mb, mz, mc⟩ := hmo
  rw [hk] at q1
  generalize os[p]'hp = o at *
  obtain ⟨k, oa, ob, oc⟩ := o
  simp only at *
  have b0w : w.grownBy (w.alloc (.cells #[.int .i64 10, .int .i64 oa, .int .i64 ob, .int .i64 oc] 46)) (some b) := World.grownBy_alloc w _ _
  have M1 := M.alloc (.cells #[.int .i64 10, .int .i64 oa, .int .i64 ob, .int .i64 oc] 46)
  have x1 := M.x.c1
  obtain ⟨a0, a1⟩ := ma (by omega) (by omega)
  obtain ⟨j0, j1⟩ := mz hk
  have HJ : Hid (ob = (ob.toNat : Int)) := by unfold Hid; omega
  have HH := Lib.hid M1.h
  have HG := Lib.hid (fun m => M.ok.get b g oa _ (M1.drewN m).h M.g.1 a0 a1)
  have hm := M.ok.mget
  have hc := M.ok.cget
  have x2 := M1.x.c2
  have hzb : (cel g oa == 0) = false := by rw [beq_eq_false_iff_ne]; exact hz
  clear M M1 hr hk hmo ma mj mb mz mc m0 m1 hz
  have hpc : (p : Int) < (os.length : Int) := by omega
  go_enter Try.func33, Try.ntmps33
  go_wp2_with fail
  go_quiet (with_reducible exact same_left (HG.out _))
  go_wp2
  go_ret
  exact ⟨ret_i64 (by rw [hn.out]; go_num), by rw [hg.out]; exact HH.out, grown_trans b0w (grown_drewN _ _ _)⟩
theorem grown_cell {w w' : World} {r : Option Nat} (h : w.grownBy w' r) {p : Addr} {v : Value} (hc : w.cell? p = some v) (hr : some p.block ≠ r) : w'.cell? p = some v :=
  (World.cell?_of_block (w := w) (h.block p.block (cell_lt (b := p.block) (off := p.off) (v := v) (by obtain ⟨x, y, z⟩ := p; cases World.cell?_spot hc; exact hc)) hr)).trans hc
set_option maxHeartbeats 1000000 in
theorem do_keep (K : MemK) (w : World) (xb b : Nat) (g : List Int) (E : Env) (A : Option Addr) (c : Nat) (PA : Option Addr) (pc : Nat) (os : List O4) (M : Mach K w xb b g E A os.length c PA pc) (hr : RO w w.heap.size A os) (hl : os.length ≤ 64) (p : Nat) (hp : p < os.length) (hmo : MayO os[p] os.length) (hk : (os[p]'hp).k = 13) :
    Calls Try.prog 33 #[.pointer (some ⟨xb, 0, none⟩), .int .i64 (p : Int)] w (DoneP K w b E g os.length p os[p]) := by
  obtain ⟨bb, off, rfl, hbB, hcell⟩ := hr (by omega)
  obtain ⟨q1, q2, q3, q4⟩ := hcell p hp
  clear hcell
  have hn : Hid (nxtN os.length g p os[p] = p + 1) := by unfold Hid nxtN; rw [if_neg (by omega), if_neg (by omega), if_neg (by omega)]
  have hg : Hid (gmN E g os[p] = g.set (md (cel g os[p].a) 32).toNat (cel g os[p].b)) := by unfold Hid gmN; rw [if_neg (by omega), if_pos hk]
  have ⟨m0, m1, ma, mj, mb, mz, mc⟩ := hmo
  rw [hk] at q1
  generalize os[p]'hp = o at *
  obtain ⟨k, oa, ob, oc⟩ := o
  simp only at *
  have b0w : w.grownBy (w.alloc (.cells #[.int .i64 13, .int .i64 oa, .int .i64 ob, .int .i64 oc] 46)) (some b) := World.grownBy_alloc w _ _
  have M1 := M.alloc (.cells #[.int .i64 13, .int .i64 oa, .int .i64 ob, .int .i64 oc] 46)
  have x1 := M.x.c1
  obtain ⟨a0, a1⟩ := ma (by omega) (by omega)
  obtain ⟨b0, b1⟩ := mb (by omega) (by omega) (by omega) (by omega) (by omega)
  obtain ⟨d0, d1⟩ := md32 (cel g oa)
  have M2 := M1.drew
  have HT := Lib.hid (told_any K M.ok xb b g oa _ M2.x.c2 M2.h M.g a0 a1)
  have HG := Lib.hid (M.ok.get b g ob _ M2.h M.g.1 b0 b1)
  have HS := Lib.hid (M.ok.set b g (md (cel g oa) 32) (cel g ob) _ M2.h M.g.1 d0 d1)
  have HN := Lib.hid (M2.h.set (md (cel g oa) 32).toNat (by have := M.g.1; omega) (cel g ob))
  have HR := Lib.hid (grown_set (w.alloc (.cells #[.int .i64 13, .int .i64 oa, .int .i64 ob, .int .i64 oc] 46)).drew ⟨b, (md (cel g oa) 32).toNat, none⟩ (.int .i32 (cel g ob)))
  have hm := M.ok.mget
  have hc := M.ok.cget
  have hm2 := M.ok.mset
  have hc2 := M.ok.cset
  have x2 := M2.x.c2
  have o1 : (w.alloc (.cells #[.int .i64 13, .int .i64 oa, .int .i64 ob, .int .i64 oc] 46)).drew.cell? ⟨w.heap.size, 1, none⟩ = some (.int .i64 oa) := (op_box w 13 oa ob oc 46).2.1
  have o2 : (w.alloc (.cells #[.int .i64 13, .int .i64 oa, .int .i64 ob, .int .i64 oc] 46)).drew.cell? ⟨w.heap.size, 2, none⟩ = some (.int .i64 ob) := (op_box w 13 oa ob oc 46).2.2.1
  have hbl := M.h.lt
  have hne := M.ne
  have HO := Lib.hid (fun W (hb : (w.alloc (.cells #[.int .i64 13, .int .i64 oa, .int .i64 ob, .int .i64 oc] 46)).drew.grownBy W (some b)) => And.intro (grown_cell hb x2 (by simp; exact hne)) (And.intro (grown_cell hb o1 (by simp; omega)) (grown_cell hb o2 (by simp; omega))))
  generalize md (cel g oa) 32 = mm at *
  clear M M1 M2 hr hk hmo ma mj mb mz mc m0 m1
  have hpc : (p : Int) < (os.length : Int) := by omega
  go_enter Try.func33, Try.ntmps33
  go_wp2_with fail
  go_region_held3 (fun w' => w'.cell? ⟨xb, 2, none⟩ = some (.iface K.T (.pointer (some ⟨b, 0, none⟩))) ∧ w'.cell? ⟨w.heap.size, 1, none⟩ = some (.int .i64 oa) ∧ w'.cell? ⟨w.heap.size, 2, none⟩ = some (.int .i64 ob)) (first | exact ⟨by assumption, by assumption, by assumption⟩ | go_keep)
    (first
      | (go_at_call 38; with_reducible refine HT.out.mono ?_; rintro e w4 ⟨rfl, rfl⟩)
      | (with_reducible refine HG.out.mono ?_; rintro e w4 ⟨rfl, rfl⟩)
      | (with_reducible refine HS.out.mono ?_; rintro e w4 ⟨rfl, hw4⟩; rw [hw4] at HR HN; obtain ⟨p0, p1, p2⟩ := HO.out _ HR.out))
  go_wp2
  go_ret
  exact ⟨ret_i64 (by rw [hn.out]; go_num), by rw [hg.out]; exact HN.out, grown_trans (grown_trans b0w (grown_drew _ _)) HR.out⟩
end Go.Proofs.Ytbmhdinaofepdaa

/- XMh -/
namespace Go.Proofs.Ytbmhdinaofepdaa
set_option maxRecDepth 100000
open Go.RowKit
set_option linter.unusedVariables false

theorem Mach.below {K : MemK} {w w' : World} {xb b : Nat} {g : List Int} {E : Env} {A : Option Addr} {n c : Nat} {PA : Option Addr} {pc : Nat} (M : Mach K w xb b g E A n c PA pc) (hb : Below w.heap.size w w') : Mach K w' xb b g E A n c PA pc :=
  ⟨M.ok, M.x.at_ (hb.block _ M.x.lt), M.h.below hb M.h.lt, M.g, (M.l.below hb).more hb.size, M.pl, M.pm, M.ts, M.ne⟩
set_option maxHeartbeats 1000000 in
theorem do_val (K : MemK) (w : World) (xb b : Nat) (g : List Int) (E : Env) (A : Option Addr) (c : Nat) (PA : Option Addr) (pc : Nat) (os : List O4) (M : Mach K w xb b g E A os.length c PA pc) (hr : RO w w.heap.size A os) (hl : os.length ≤ 64) (p : Nat) (hp : p < os.length) (hmo : MayO os[p] os.length) (hs : sml (os[p]'hp).b) (h0 : (os[p]'hp).k ≠ 0) (h9 : (os[p]'hp).k ≠ 9) (h10 : (os[p]'hp).k ≠ 10) (h13 : (os[p]'hp).k ≠ 13) :
    Calls Try.prog 33 #[.pointer (some ⟨xb, 0, none⟩), .int .i64 (p : Int)] w (DoneP K w b E g os.length p os[p]) := by
  obtain ⟨bb, off, rfl, hbB, hcell⟩ := hr (by omega)
  obtain ⟨q1, q2, q3, q4⟩ := hcell p hp
  clear hcell
  have hn : Hid (nxtN os.length g p os[p] = p + 1) := by unfold Hid nxtN; rw [if_neg h0, if_neg h9, if_neg (fun h => h10 h.1)]
  have hg : Hid (gmN E g os[p] = g.set os[p].a.toNat (valN E g os[p])) := by unfold Hid gmN; rw [if_neg (by omega), if_neg h13]
  generalize os[p]'hp = o at *
  have HV := Lib.hid (fun W (MW : Mach K W xb b g E (some ⟨bb, off, none⟩) os.length c PA pc) => value_any K W xb b g E (some ⟨bb, off, none⟩) os.length c PA pc MW o os.length hmo hs h0 h9 h10 h13)
  have ⟨m0, m1, ma, mj, mb, mz, mc⟩ := hmo
  obtain ⟨a0, a1⟩ := ma h0 h9
  generalize valN E g o = v at *
  obtain ⟨k, oa, ob, oc⟩ := o
  unfold opV at HV
  simp only at *
  have b0w : w.grownBy (w.alloc (.cells #[.int .i64 k, .int .i64 oa, .int .i64 ob, .int .i64 oc] 46)) (some b) := World.grownBy_alloc w _ _
  have M1 := M.alloc (.cells #[.int .i64 k, .int .i64 oa, .int .i64 ob, .int .i64 oc] 46)
  have x1 := M.x.c1
  have M2 := M1.drew
  have HV2 := Lib.hid (HV.out _ M2)
  have HS := Lib.hid (fun W (hb : Below (w.alloc (.cells #[.int .i64 k, .int .i64 oa, .int .i64 ob, .int .i64 oc] 46)).drew.heap.size (w.alloc (.cells #[.int .i64 k, .int .i64 oa, .int .i64 ob, .int .i64 oc] 46)).drew W) => M.ok.set b g oa v W (M2.below hb).h M.g.1 a0 a1)
  have HN := Lib.hid (fun W (hb : Below (w.alloc (.cells #[.int .i64 k, .int .i64 oa, .int .i64 ob, .int .i64 oc] 46)).drew.heap.size (w.alloc (.cells #[.int .i64 k, .int .i64 oa, .int .i64 ob, .int .i64 oc] 46)).drew W) => (M2.below hb).h.set oa.toNat (by have := M.g.1; omega) v)
  have hm2 := M.ok.mset
  have hc2 := M.ok.cset
  have x2 := M2.x.c2
  have o0 : (w.alloc (.cells #[.int .i64 k, .int .i64 oa, .int .i64 ob, .int .i64 oc] 46)).drew.cell? ⟨w.heap.size, 0, none⟩ = some (.int .i64 k) := (op_box w k oa ob oc 46).1
  have o1 : (w.alloc (.cells #[.int .i64 k, .int .i64 oa, .int .i64 ob, .int .i64 oc] 46)).drew.cell? ⟨w.heap.size, 1, none⟩ = some (.int .i64 oa) := (op_box w k oa ob oc 46).2.1
  have o2 : (w.alloc (.cells #[.int .i64 k, .int .i64 oa, .int .i64 ob, .int .i64 oc] 46)).drew.cell? ⟨w.heap.size, 2, none⟩ = some (.int .i64 ob) := (op_box w k oa ob oc 46).2.2.1
  have o3 : (w.alloc (.cells #[.int .i64 k, .int .i64 oa, .int .i64 ob, .int .i64 oc] 46)).drew.cell? ⟨w.heap.size, 3, none⟩ = some (.int .i64 oc) := (op_box w k oa ob oc 46).2.2.2
  have hbl := M.h.lt
  have hne := M.ne
  have HO := Lib.hid (fun W (hb : (w.alloc (.cells #[.int .i64 k, .int .i64 oa, .int .i64 ob, .int .i64 oc] 46)).drew.grownBy W (some b)) => And.intro (grown_cell hb x2 (by simp; exact hne)) (And.intro (grown_cell hb o0 (by simp; omega)) (And.intro (grown_cell hb o1 (by simp; omega)) (And.intro (grown_cell hb o2 (by simp; omega)) (grown_cell hb o3 (by simp; omega))))))
  have e0 : (k == 0) = false := by rw [beq_eq_false_iff_ne]; exact h0
  have e9 : (k == 9) = false := by rw [beq_eq_false_iff_ne]; exact h9
  have e10 : (k == 10) = false := by rw [beq_eq_false_iff_ne]; exact h10
  have e13 : (k == 13) = false := by rw [beq_eq_false_iff_ne]; exact h13
  clear M M1 M2 hr HV hmo ma mj mb mz mc m0 m1 h0 h9 h10 h13
  have hpc : (p : Int) < (os.length : Int) := by omega
  go_enter Try.func33, Try.ntmps33
  go_wp2_with fail
  go_region_held3 (fun w' => w'.cell? ⟨xb, 2, none⟩ = some (.iface K.T (.pointer (some ⟨b, 0, none⟩))) ∧ w'.cell? ⟨w.heap.size, 0, none⟩ = some (.int .i64 k) ∧ w'.cell? ⟨w.heap.size, 1, none⟩ = some (.int .i64 oa) ∧ w'.cell? ⟨w.heap.size, 2, none⟩ = some (.int .i64 ob) ∧ w'.cell? ⟨w.heap.size, 3, none⟩ = some (.int .i64 oc)) (first | exact ⟨by assumption, by assumption, by assumption, by assumption, by assumption⟩ | go_keep)
    (first
      | (go_at_call 39; with_reducible refine HV2.out.mono ?_; rintro e w4 ⟨rfl, hb4⟩; obtain ⟨p0, p1, p2, p3, p4⟩ := HO.out _ (grown_below hb4))
      | (with_reducible refine (HS.out _ hb4).mono ?_; rintro e w5 ⟨rfl, hw5⟩; have HR := Lib.hid (grown_set w4 ⟨b, oa.toNat, none⟩ (.int .i32 v)); have HN5 := Lib.hid (HN.out _ hb4); rw [hw5] at HR HN5; obtain ⟨r0, r1, r2, r3, r4⟩ := HO.out _ (grown_trans (grown_below hb4) HR.out)))
  go_wp2
  go_ret
  exact ⟨ret_i64 (by rw [hn.out]; go_num), by rw [hg.out]; exact HN5.out, grown_trans (grown_trans b0w (grown_drew _ _)) (grown_trans (grown_below hb4) HR.out)⟩
theorem do_any (K : MemK) (w : World) (xb b : Nat) (g : List Int) (E : Env) (A : Option Addr) (c : Nat) (PA : Option Addr) (pc : Nat) (os : List O4) (M : Mach K w xb b g E A os.length c PA pc) (hr : RO w w.heap.size A os) (hl : os.length ≤ 64) (p : Nat) (hp : p < os.length) (hmo : MayO os[p] os.length) (hs : sml (os[p]'hp).b) :
    Calls Try.prog 33 #[.pointer (some ⟨xb, 0, none⟩), .int .i64 (p : Int)] w (DoneP K w b E g os.length p os[p]) := by
  by_cases h0 : (os[p]'hp).k = 0
  · exact do_halt K w xb b g E A c PA pc os M hr hl p hp h0
  by_cases h9 : (os[p]'hp).k = 9
  · exact do_jump K w xb b g E A c PA pc os M hr hl p hp hmo h9
  by_cases h10 : (os[p]'hp).k = 10
  · by_cases hz : cel g (os[p]'hp).a = 0
    · exact do_zero K w xb b g E A c PA pc os M hr hl p hp hmo h10 hz
    · exact do_past K w xb b g E A c PA pc os M hr hl p hp hmo h10 hz
  by_cases h13 : (os[p]'hp).k = 13
  · exact do_keep K w xb b g E A c PA pc os M hr hl p hp hmo h13
  exact do_val K w xb b g E A c PA pc os M hr hl p hp hmo hs h0 h9 h10 h13
end Go.Proofs.Ytbmhdinaofepdaa
