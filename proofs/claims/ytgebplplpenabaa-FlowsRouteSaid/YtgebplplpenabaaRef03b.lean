/-
  countinghouseref03: at, Line.
-/
import Derived.Test.YtgebplplpenabaaRef03
namespace Go.Proofs.Ytgebplplpenabaa
open Go.RowKit
set_option linter.unusedSimpArgs false
set_option linter.unusedVariables false



end Go.Proofs.Ytgebplplpenabaa
