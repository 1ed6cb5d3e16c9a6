/-
  countinghouseref03: a ledger in memory; Has, rank, at.
-/
import Derived.Test.YtdpkcamhafkkbaaHeap
namespace Go.Proofs.Ytdpkcamhafkkbaa
open Go.RowKit
set_option linter.unusedSimpArgs false
set_option linter.unusedVariables false



end Go.Proofs.Ytdpkcamhafkkbaa
