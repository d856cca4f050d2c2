/- WALKS of the laws of layer 17: begun; QueueNone. -/
import Derived.Test.YtomiligjcpmnjaaXd
namespace Go.Proofs.Ytomiligjcpmnjaa
set_option maxRecDepth 100000
open Go.RowKit
set_option linter.unusedVariables false
set_option linter.unusedSimpArgs false

theorem two_new {xs : List Ln} (h : xs.map Ln.l = List.replicate 2 (zB 1)) : ∃ a b, xs = [⟨a, [0]⟩, ⟨b, [0]⟩] := by
  have hl : xs.length = 2 := by have := congrArg List.length h; simpa using this
  match xs, hl with
  | [⟨a, x⟩, ⟨b, y⟩], _ =>
    simp [zB, List.replicate] at h
    obtain ⟨rfl, rfl⟩ := h
    exact ⟨a, b, rfl⟩
end Go.Proofs.Ytomiligjcpmnjaa
