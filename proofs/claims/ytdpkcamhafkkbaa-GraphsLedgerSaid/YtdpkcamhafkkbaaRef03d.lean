/-
  countinghouseref03: New, Open.
-/
import Derived.Test.YtdpkcamhafkkbaaRef03c
namespace Go.Proofs.Ytdpkcamhafkkbaa
open Go.RowKit
set_option linter.unusedSimpArgs false
set_option linter.unusedVariables false



/-- The parties behind Open, those below number k. -/
def openTo (ps : List Int) (p : Int) (k : Nat) : List Int := ((List.range (k - 1)).map fun i : Nat => (i : Int) + 1).filter fun q => q == p || decide (q ∈ ps)
theorem openTo_next (ps : List Int) (p : Int) (k : Nat) (h : 1 ≤ k) : openTo ps p (k + 1) = openTo ps p k ++ (if ((k : Int) == p || decide ((k : Int) ∈ ps)) = true then [(k : Int)] else []) := by
  unfold openTo
  rw [show k + 1 - 1 = (k - 1) + 1 by omega, List.range_succ, List.map_append, List.filter_append]
  congr 1
  rw [List.map_singleton, show ((k - 1 : Nat) : Int) + 1 = (k : Int) by omega]
  simp only [List.filter_cons, List.filter_nil]
theorem openTo_len (ps : List Int) (p : Int) (k : Nat) : (openTo ps p k).length ≤ k := by
  unfold openTo
  refine Nat.le_trans (List.length_filter_le _ _) ?_
  simp
def openE (ps : List Int) (p : Int) : Int := if p < 1 ∨ 16 < p then 1 else if p ∈ ps then 8 else 0
def openP (ps : List Int) (p : Int) : List Int := if p < 1 ∨ 16 < p then ps else if p ∈ ps then ps else openTo ps p 17


end Go.Proofs.Ytdpkcamhafkkbaa
