/-
  countinghouseref03: set.
-/
import Derived.Test.YtlmebpplhpjdfaaRef03b
import Derived.Test.YtlmebpplhpjdfaaRegionG
namespace Go.Proofs.Ytlmebpplhpjdfaa
open Go.RowKit
set_option linter.unusedSimpArgs false
set_option linter.unusedVariables false


end Go.Proofs.Ytlmebpplhpjdfaa
