/-
  The program's graphs: New (written by gen_pgrn.py).
-/
import Derived.Test.YtkoopkoambhinaaPGr
import Derived.Test.YtkoopkoambhinaaSame
namespace Go.Proofs.Ytkoopkoambhinaa
open Go.RowKit
set_option linter.unusedSimpArgs false
set_option linter.unusedVariables false


end Go.Proofs.Ytkoopkoambhinaa
