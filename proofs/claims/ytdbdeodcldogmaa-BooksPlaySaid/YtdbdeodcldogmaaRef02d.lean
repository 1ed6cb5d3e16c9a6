/-
  countinghouseref02: Of's refusals, so all of Of; Fits.
-/
import Derived.Test.YtdbdeodcldogmaaRats2
namespace Go.Proofs.Ytdbdeodcldogmaa
open Go.RowKit
set_option linter.unusedSimpArgs false
set_option linter.unusedVariables false



end Go.Proofs.Ytdbdeodcldogmaa
