/-
  countinghouseref03: a ledger in memory; Has, rank, at.
-/
import Derived.Test.YtlmebpplhpjdfaaHeap
namespace Go.Proofs.Ytlmebpplhpjdfaa
open Go.RowKit
set_option linter.unusedSimpArgs false
set_option linter.unusedVariables false



end Go.Proofs.Ytlmebpplhpjdfaa
