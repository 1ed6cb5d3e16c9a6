/-
  The statements' own book of pages: a page of lines; pages without memory.
-/
import Derived.Test.YtmfacfnbokadmaaBook
namespace Go.Proofs.Ytmfacfnbokadmaa
open Go.RowKit
set_option linter.unusedSimpArgs false
set_option linter.unusedVariables false

def lnMk (x : Ln) (j : Nat) : Value := x.vals.getD j undef
theorem blk_ex {w : World} {b : Nat} {cs : Array Value} {t : TypeId} (h : Blk w b cs t) {j : Nat} (hj : j < cs.size) : ∃ v, w.cell? ⟨b, j, none⟩ = some v := ⟨cs[j], by rw [h.cell, Array.getElem?_eq_getElem hj]⟩


end Go.Proofs.Ytmfacfnbokadmaa
