/-
  countinghouseref03: at, Line.
-/
import Derived.Test.YtlmebpplhpjdfaaRef03
namespace Go.Proofs.Ytlmebpplhpjdfaa
open Go.RowKit
set_option linter.unusedSimpArgs false
set_option linter.unusedVariables false



end Go.Proofs.Ytlmebpplhpjdfaa
