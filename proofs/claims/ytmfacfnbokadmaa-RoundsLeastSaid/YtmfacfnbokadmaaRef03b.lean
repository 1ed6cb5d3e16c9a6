/-
  countinghouseref03: at, Line.
-/
import Derived.Test.YtmfacfnbokadmaaRef03
namespace Go.Proofs.Ytmfacfnbokadmaa
open Go.RowKit
set_option linter.unusedSimpArgs false
set_option linter.unusedVariables false



end Go.Proofs.Ytmfacfnbokadmaa
