/-
  The statements' own book of pages: a page of api.Flow (written by gen_pages.py).
-/
import Derived.Test.YtlmebpplhpjdfaaBookL
import Derived.Test.YtlmebpplhpjdfaaFlw
namespace Go.Proofs.Ytlmebpplhpjdfaa
open Go.RowKit
set_option linter.unusedSimpArgs false
set_option linter.unusedVariables false

def fwMk (x : Fw) (j : Nat) : Value := x.vals.getD j undef
theorem fill_next3 (mk : Nat → Value) (cs : Array Value) (lo hi : Nat) (hl : lo ≤ hi) (h : (hi + 1) * 3 ≤ cs.size) :
    (((fill 3 mk cs lo hi).setIfInBounds (hi * 3) (mk 0)).setIfInBounds (hi * 3 + 1) (mk 1)).setIfInBounds (hi * 3 + 2) (mk 2) = fill 3 mk cs lo (hi + 1) := by
  apply Array.ext
  · simp [fill_size]
  · intro j h1 h2
    simp only [Array.size_setIfInBounds] at h1
    repeat rw [Array.getElem_setIfInBounds (by simpa using h1)]
    simp only [fill, Array.getElem_ofFn]
    by_cases e2 : hi * 3 + 2 = j
    · rw [if_pos e2, if_pos (by omega), show j % 3 = 2 by omega]
    rw [if_neg e2]
    by_cases e1 : hi * 3 + 1 = j
    · rw [if_pos e1, if_pos (by omega), show j % 3 = 1 by omega]
    rw [if_neg e1]
    by_cases e0 : hi * 3 = j
    · rw [if_pos e0, if_pos (by omega), show j % 3 = 0 by omega]
    rw [if_neg e0]
    by_cases q : lo * 3 ≤ j ∧ j < hi * 3
    · rw [if_pos q, if_pos (by omega)]
    · rw [if_neg q, if_neg (by omega)]
/-- At the head of a page's loop. -/
def PageAtF (w : World) (b : Nat) (cs : Array Value) (row : Array Value) (t e : TypeId) (s lo last : Nat) (mk : Nat → Value) (i : Value) (wr : World) : Prop :=
  ∃ k : Nat, lo ≤ k ∧ k ≤ last ∧ i = .int .i64 k ∧ Blk wr b (fill s mk cs lo k) e ∧ Blk wr w.heap.size row t ∧ Keep (· = b) w wr

end Go.Proofs.Ytlmebpplhpjdfaa
