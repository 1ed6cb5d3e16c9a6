/-
  The program's graphs: partyMay, edgeMay, Cap, Push, all, Same, Copy.
-/
import Derived.Test.YtmfacfnbokadmaaGrd
import Derived.Test.YtmfacfnbokadmaaLays
namespace Go.Proofs.Ytmfacfnbokadmaa
open Go.RowKit
set_option linter.unusedSimpArgs false
set_option linter.unusedVariables false

def mayG (p : Int) : Bool := decide (1 ≤ p ∧ p ≤ 16)
theorem mayG_true {p : Int} (h : inP p) : mayG p = true := by unfold mayG; unfold inP at h; simp; omega
theorem mayG_false {p : Int} (h : ¬ inP p) : mayG p = false := by unfold mayG; unfold inP at h; simp; omega



/-! Push, all, Same, Copy. -/





end Go.Proofs.Ytmfacfnbokadmaa
