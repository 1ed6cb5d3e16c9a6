/-
  countinghouseref03: a ledger in memory; Has, rank, at.
-/
import Derived.Test.YtgebplplpenabaaHeap
namespace Go.Proofs.Ytgebplplpenabaa
open Go.RowKit
set_option linter.unusedSimpArgs false
set_option linter.unusedVariables false



end Go.Proofs.Ytgebplplpenabaa
