/-
  countinghouseref02's Of, for every two numbers.
-/
import Derived.Test.YtdbdeodcldogmaaRef02b
namespace Go.Proofs.Ytdbdeodcldogmaa
open Go.RowKit
set_option linter.unusedSimpArgs false
set_option linter.unusedVariables false


end Go.Proofs.Ytdbdeodcldogmaa
