/-
  countinghouseref03: set.
-/
import Derived.Test.YtkoopkoambhinaaRef03b
import Derived.Test.YtkoopkoambhinaaRegionG
namespace Go.Proofs.Ytkoopkoambhinaa
open Go.RowKit
set_option linter.unusedSimpArgs false
set_option linter.unusedVariables false


end Go.Proofs.Ytkoopkoambhinaa
