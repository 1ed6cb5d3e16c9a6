/-
  countinghouseref03: set.
-/
import Derived.Test.YtgebplplpenabaaRef03b
import Derived.Test.YtgebplplpenabaaRegionG
namespace Go.Proofs.Ytgebplplpenabaa
open Go.RowKit
set_option linter.unusedSimpArgs false
set_option linter.unusedVariables false


end Go.Proofs.Ytgebplplpenabaa
