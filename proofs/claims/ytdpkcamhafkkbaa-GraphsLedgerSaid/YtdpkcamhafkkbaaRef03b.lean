/-
  countinghouseref03: at, Line.
-/
import Derived.Test.YtdpkcamhafkkbaaRef03
namespace Go.Proofs.Ytdpkcamhafkkbaa
open Go.RowKit
set_option linter.unusedSimpArgs false
set_option linter.unusedVariables false



end Go.Proofs.Ytdpkcamhafkkbaa
