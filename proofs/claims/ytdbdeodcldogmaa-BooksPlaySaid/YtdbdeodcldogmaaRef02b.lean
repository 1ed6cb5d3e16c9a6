/-
  countinghouseref02: the greatest number that divides both.
-/
import Derived.Test.YtdbdeodcldogmaaRef02
namespace Go.Proofs.Ytdbdeodcldogmaa
open Go.RowKit
set_option linter.unusedSimpArgs false
set_option linter.unusedVariables false


end Go.Proofs.Ytdbdeodcldogmaa

/-
  countinghouseref02's Of, for every two numbers.
-/
namespace Go.Proofs.Ytdbdeodcldogmaa
open Go.RowKit
set_option linter.unusedSimpArgs false
set_option linter.unusedVariables false


end Go.Proofs.Ytdbdeodcldogmaa
