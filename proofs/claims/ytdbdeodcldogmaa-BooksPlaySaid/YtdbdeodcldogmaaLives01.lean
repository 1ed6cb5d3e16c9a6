/-
  Layer 1's statements ask the chapter's examples ('lives'): they are answered as they should be.
-/
import Derived.Test.YtdbdeodcldogmaaExacts
namespace Go.Proofs.Ytdbdeodcldogmaa
open Go.RowKit
set_option linter.unusedSimpArgs false
set_option linter.unusedVariables false

theorem ans_of (x : Int) (h : In64 x) : ans x = .tuple #[.int .i64 x, .int .i64 0] := by simp [ans, okN, erN, h]
theorem ans_not (x : Int) (h : ¬ In64 x) : ans x = .tuple #[.int .i64 0, .int .i64 10] := by simp [ans, okN, erN, h]


end Go.Proofs.Ytdbdeodcldogmaa
