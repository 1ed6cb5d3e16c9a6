/-
  countinghouseref03: at, Line.
-/
import Derived.Test.YtkoopkoambhinaaRef03
namespace Go.Proofs.Ytkoopkoambhinaa
open Go.RowKit
set_option linter.unusedSimpArgs false
set_option linter.unusedVariables false



end Go.Proofs.Ytkoopkoambhinaa
