/-
  countinghouseref03: Push.
-/
import Derived.Test.YtdpkcamhafkkbaaRef03g
namespace Go.Proofs.Ytdpkcamhafkkbaa
open Go.RowKit
set_option linter.unusedSimpArgs false
set_option linter.unusedVariables false

theorem lnAt_of {P : Ln → Prop} {ls : List Ln} (h : ∀ y ∈ ls, P y) (h0 : P noLn) (a b c : Int) : P (lnAt ls a b c) := by
  unfold lnAt
  cases e : lineL ls a b c with
  | none => exact h0
  | some x => exact h x (lineL_mem e).1
theorem noLn_fits : noLn.Fits ∧ 0 ≤ noLn.db ∧ noLn.db ≤ 1099511627776 := ⟨fits_mk (by decide) (by decide) (by decide) (by decide) (by decide), by decide, by decide⟩


end Go.Proofs.Ytdpkcamhafkkbaa
