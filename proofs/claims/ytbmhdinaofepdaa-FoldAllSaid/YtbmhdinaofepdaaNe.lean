/- THE WALKS over package num: Bytes, Text; ref PutText. -/
import Derived.Test.YtbmhdinaofepdaaNc
import Derived.Test.YtbmhdinaofepdaaNd
import Derived.Test.YtbmhdinaofepdaaOa
import Derived.Test.YtbmhdinaofepdaaKc
import Derived.Lib.AppendStr
namespace Go.Proofs.Ytbmhdinaofepdaa
open Go.RowKit
set_option linter.unusedVariables false

theorem wpList_append_text {w : World} {ops : Array Oper} {rest : List Oper} {o : Oper} {a : Act} {Q : Exit → Act → World → Prop} (hgd : o.guard = none) (s x : Operand)
    (ho : o.op = .call { callee := .builtin .append, args := #[s, x], argTypes := #[43, 9] })
    (base : Nat) (v : Value) (xs : List UInt8) (hs : a.eval s = v) (hown : OB w base v xs)
    (t : ByteArray) (hx : a.eval x = .string t) (hlen : xs.length + t.size ≤ 140737488355328) (hbase : base ≤ w.heap.size)
    (h : ∀ v' w', OB w' base v' (xs ++ t.data.toList) → w.grownBy w' v.ownBlock → wpList Try.prog ops Q rest (a.put o.dst v') w') : wpList Try.prog ops Q (o :: rest) a w := by
  obtain ⟨i0, hi0, hz0, hz1, hz2⟩ := info_parts byte_info
  refine Lib.wpList_append_own_string w hgd s x _ _ ho base 5 i0 Try.underlying43 Try.underlying9 hi0 hz0 hz1 hz2 v xs.length (xs.map vb) hs hown t hx (by unfold maxLen; omega) hlen hbase (fun v' w' h1 h2 _ => h v' w' ?_ h2)
  unfold OB
  have e : (xs ++ t.data.toList).length = xs.length + t.size := by rw [List.length_append]; rfl
  rw [e, List.map_append]
  exact h1

set_option maxHeartbeats 1000000 in
theorem bytes_any (A : Option Addr) (l : List UInt8) (cap B : Nat) (s : ByteArray) (w : World) (hr : RB w B A l) (hB : B ≤ w.heap.size) (hl : l.length ≤ 1099511627776) (hs : s.size ≤ 1099511627776) :
    Calls Try.prog 50 #[.slice A l.length cap, .string s] w fun e w' => ∃ v, e = .returned v ∧ OB w' w.heap.size v (l ++ putT s.data.toList) ∧ Below w.heap.size w w' := by
  have HR := Lib.hid hr; clear hr
  have hn : in64 (s.size : Int) := by unfold in64; omega
  have HN := Lib.hid hn; clear hn
  have hpl : (putN (s.size : Int)).length ≤ 10 := putN_len _ HN.out
  go_enter Try.func50, Try.ntmps50
  go_wp2_with fail
  refine (put_any A l cap B _ _ HR.out hB HN.out hl).mono ?_
  rintro e w1 ⟨v, rfl, ho, hb⟩
  have HO := Lib.hid ho; clear ho
  have hsz := hb.size
  go_wp2_with (at_builtin; refine wpList_append_text rfl (.tmp 8) (.tmp 9) rfl w.heap.size v _ rfl HO.out s rfl (by rw [List.length_append]; omega) hsz ?_; intro v2 w2 o2 g2)
  go_ret
  refine ⟨_, rfl, ?_, hb.grown g2 hsz HO.out.ge⟩
  unfold putT
  rw [← List.append_assoc]
  exact o2
inductive TGot where
  | more
  | form
  | ok (t : List UInt8) (k : Nat)
def textN (l : List UInt8) : TGot := match getN l with
  | .more => .more
  | .form => .form
  | .ok u k => if zag u < 0 ∨ 65536 < zag u then .form else if l.length < k + (zag u).toNat then .more else .ok ((l.drop k).take (zag u).toNat) (k + (zag u).toNat)
theorem textN_ok {l : List UInt8} {u k : Nat} (h : getN l = .ok u k) : textN l = if zag u < 0 ∨ 65536 < zag u then .form else if l.length < k + (zag u).toNat then .more else .ok ((l.drop k).take (zag u).toNat) (k + (zag u).toNat) := by
  unfold textN; rw [h]
def textV : TGot → Value
  | .more => .tuple #[.string ⟨#[]⟩, .int .i64 0, .int .i64 2]
  | .form => .tuple #[.string ⟨#[]⟩, .int .i64 0, .int .i64 1]
  | .ok t k => .tuple #[.string (str t), .int .i64 (k : Int), .int .i64 0]
/-- a piece that begins at k, ends at k + n: as the walk has it -/
theorem mid_piece {w : World} {B : Nat} {b off : Nat} {l : List UInt8} (h : RB w B (some ⟨b, off, none⟩) l) (k n cap : Nat) (h1 : k + n ≤ l.length) (hc : l.length ≤ cap) :
    ∃ o, (if cap = k then some ⟨b, off, none⟩ else (some ⟨b, off, none⟩ : Option Addr).map (·.add k)) = some ⟨b, o, none⟩ ∧ RB w B (some ⟨b, o, none⟩) ((l.drop k).take n) := by
  have hh := (h.cut k cap (by omega) hc).take n
  by_cases e : cap = k
  · rw [if_pos e] at hh ⊢
    exact ⟨off, rfl, hh⟩
  · rw [if_neg e] at hh ⊢
    simp only [Option.map_some, Addr.add_lit] at hh ⊢
    exact ⟨off + k, rfl, hh⟩
end Go.Proofs.Ytbmhdinaofepdaa
