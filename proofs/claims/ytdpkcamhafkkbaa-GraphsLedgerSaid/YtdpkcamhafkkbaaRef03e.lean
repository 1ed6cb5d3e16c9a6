/-
  countinghouseref03: Room, Trust.
-/
import Derived.Test.YtdpkcamhafkkbaaRef03d
namespace Go.Proofs.Ytdpkcamhafkkbaa
open Go.RowKit
set_option linter.unusedSimpArgs false
set_option linter.unusedVariables false



end Go.Proofs.Ytdpkcamhafkkbaa
