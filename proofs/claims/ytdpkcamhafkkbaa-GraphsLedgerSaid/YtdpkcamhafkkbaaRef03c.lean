/-
  countinghouseref03: set.
-/
import Derived.Test.YtdpkcamhafkkbaaRef03b
import Derived.Test.YtdpkcamhafkkbaaRegionG
namespace Go.Proofs.Ytdpkcamhafkkbaa
open Go.RowKit
set_option linter.unusedSimpArgs false
set_option linter.unusedVariables false


end Go.Proofs.Ytdpkcamhafkkbaa
