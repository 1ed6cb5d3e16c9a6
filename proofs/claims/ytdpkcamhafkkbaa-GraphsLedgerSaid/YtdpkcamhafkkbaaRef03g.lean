/-
  countinghouseref03: Forgive, Push.
-/
import Derived.Test.YtdpkcamhafkkbaaRef03e
namespace Go.Proofs.Ytdpkcamhafkkbaa
open Go.RowKit
set_option linter.unusedSimpArgs false
set_option linter.unusedVariables false



end Go.Proofs.Ytdpkcamhafkkbaa
