/- WALKS of the laws PredictLast, PredictTable. -/
import Derived.Test.YtomiligjcpmnjaaFr
import Derived.Test.YtomiligjcpmnjaaKv
import Derived.Test.YtomiligjcpmnjaaKw
namespace Go.Proofs.Ytomiligjcpmnjaa
set_option maxRecDepth 100000
open Go.RowKit Go.Maps
set_option linter.unusedVariables false
set_option linter.unusedSimpArgs false

theorem nxt_lst {b : Kd} (hk : b.k = 1) (p : List UInt8) : nxt b p = lst p := by
  by_cases h : 0 < p.length
  · exact nxt_last hk h
  · obtain rfl := List.eq_nil_of_length_eq_zero (by omega : p.length = 0)
    exact nxt_first hk
theorem chN_last {b : Kd} (hk : b.k = 1) : ∀ n p, ∀ x ∈ chN b n p, x = lst p
  | 0, p, x, h => by simp [chN] at h
  | n + 1, p, x, h => by
    unfold chN at h
    rcases List.mem_cons.1 h with e | e
    · rw [e, nxt_lst hk]
    · rw [chN_last hk n _ x e, lst_push, nxt_lst hk]
theorem chN_table {b : Kd} (hk : b.k = 3) : ∀ n p i, i < n → (chN b n p).getD i 0 = b.tb.getD ((p.length + i) % b.tb.length) 0
  | 0, p, i, h => by omega
  | n + 1, p, 0, h => by
    rw [chN, List.getD_cons_zero, nxt_drawn hk, drw, Nat.add_zero]
  | n + 1, p, i + 1, h => by
    rw [chN, List.getD_cons_succ, chN_table hk n _ i (by omega), List.length_append, List.length_singleton]
    congr 2; omega
end Go.Proofs.Ytomiligjcpmnjaa
