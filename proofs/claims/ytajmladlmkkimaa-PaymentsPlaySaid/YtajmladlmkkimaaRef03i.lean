/-
  countinghouseref03: Copy.
-/
import Derived.Test.YtajmladlmkkimaaRef03e
import Derived.Test.YtajmladlmkkimaaAppends
import Derived.Laws.AppendOwnNone
namespace Go.Proofs.Ytajmladlmkkimaa
open Go.RowKit
set_option linter.unusedSimpArgs false
set_option linter.unusedVariables false

theorem lnCells_one_cell (ls : List Ln) : ∀ u ∈ lnCells ls, u.oneCell' = true := by
  intro u hu
  unfold lnCells at hu
  obtain ⟨x, _, hx⟩ := List.mem_flatMap.1 hu
  simp [Ln.vals] at hx
  rcases hx with rfl | rfl | rfl | rfl | rfl <;> rfl


end Go.Proofs.Ytajmladlmkkimaa
