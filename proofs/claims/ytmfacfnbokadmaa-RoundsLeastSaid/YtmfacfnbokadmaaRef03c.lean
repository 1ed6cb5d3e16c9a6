/-
  countinghouseref03: set.
-/
import Derived.Test.YtmfacfnbokadmaaRef03b
import Derived.Test.YtmfacfnbokadmaaRegionG
namespace Go.Proofs.Ytmfacfnbokadmaa
open Go.RowKit
set_option linter.unusedSimpArgs false
set_option linter.unusedVariables false


end Go.Proofs.Ytmfacfnbokadmaa
