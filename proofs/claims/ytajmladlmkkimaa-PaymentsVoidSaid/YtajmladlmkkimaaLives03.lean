/-
  Layer 3's examples.
-/
import Derived.Test.YtajmladlmkkimaaSortL
namespace Go.Proofs.Ytajmladlmkkimaa
open Go.RowKit
set_option linter.unusedSimpArgs false
set_option linter.unusedVariables false


end Go.Proofs.Ytajmladlmkkimaa
