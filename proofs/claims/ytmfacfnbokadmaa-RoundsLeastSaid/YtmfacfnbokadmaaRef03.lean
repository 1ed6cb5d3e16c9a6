/-
  countinghouseref03: a ledger in memory; Has, rank, at.
-/
import Derived.Test.YtmfacfnbokadmaaHeap
namespace Go.Proofs.Ytmfacfnbokadmaa
open Go.RowKit
set_option linter.unusedSimpArgs false
set_option linter.unusedVariables false



end Go.Proofs.Ytmfacfnbokadmaa
