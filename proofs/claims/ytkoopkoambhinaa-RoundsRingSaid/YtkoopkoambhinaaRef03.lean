/-
  countinghouseref03: a ledger in memory; Has, rank, at.
-/
import Derived.Test.YtkoopkoambhinaaHeap
namespace Go.Proofs.Ytkoopkoambhinaa
open Go.RowKit
set_option linter.unusedSimpArgs false
set_option linter.unusedVariables false



end Go.Proofs.Ytkoopkoambhinaa
