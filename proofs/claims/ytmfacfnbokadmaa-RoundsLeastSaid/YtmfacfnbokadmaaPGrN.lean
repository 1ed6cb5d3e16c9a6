/-
  The program's graphs: New (written by gen_pgrn.py).
-/
import Derived.Test.YtmfacfnbokadmaaPGr
import Derived.Test.YtmfacfnbokadmaaSame
namespace Go.Proofs.Ytmfacfnbokadmaa
open Go.RowKit
set_option linter.unusedSimpArgs false
set_option linter.unusedVariables false


end Go.Proofs.Ytmfacfnbokadmaa
