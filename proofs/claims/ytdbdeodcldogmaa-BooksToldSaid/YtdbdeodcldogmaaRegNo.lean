/-
  A region of a function's body, found by its number; a region that draws its order, in which just one operation changes old memory.
-/
import Derived.Test.YtdbdeodcldogmaaOnce
namespace Go.Proofs.Ytdbdeodcldogmaa
open Go.RowKit
set_option linter.unusedSimpArgs false
set_option linter.unusedVariables false

/-- The region of this number. -/
def regionNo (n : Nat) : Code → Option Code
  | .region i ops m => match i == n with
    | true => some (.region i ops m)
    | false => none
  | .seq a b => match regionNo n a with
    | some c => some c
    | none => regionNo n b
  | .cond _ a b => match regionNo n a with
    | some c => some c
    | none => regionNo n b
  | .block _ c => regionNo n c
  | .scope c => regionNo n c
  | .loop c => regionNo n c
  | _ => none

end Go.Proofs.Ytdbdeodcldogmaa
