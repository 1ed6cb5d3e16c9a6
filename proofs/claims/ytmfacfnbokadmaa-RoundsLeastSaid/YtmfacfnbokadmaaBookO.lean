/-
  The statements' own book of pages: a page of api.Offer (written by gen_pages.py).
-/
import Derived.Test.YtmfacfnbokadmaaBookL
import Derived.Test.YtmfacfnbokadmaaOff
namespace Go.Proofs.Ytmfacfnbokadmaa
open Go.RowKit
set_option linter.unusedSimpArgs false
set_option linter.unusedVariables false

def ofMk (x : Of) (j : Nat) : Value := x.vals.getD j undef
theorem fill_next7 (mk : Nat → Value) (cs : Array Value) (lo hi : Nat) (hl : lo ≤ hi) (h : (hi + 1) * 7 ≤ cs.size) :
    (((((((fill 7 mk cs lo hi).setIfInBounds (hi * 7) (mk 0)).setIfInBounds (hi * 7 + 1) (mk 1)).setIfInBounds (hi * 7 + 2) (mk 2)).setIfInBounds (hi * 7 + 3) (mk 3)).setIfInBounds (hi * 7 + 4) (mk 4)).setIfInBounds (hi * 7 + 5) (mk 5)).setIfInBounds (hi * 7 + 6) (mk 6) = fill 7 mk cs lo (hi + 1) := by
  apply Array.ext
  · simp [fill_size]
  · intro j h1 h2
    simp only [Array.size_setIfInBounds] at h1
    repeat rw [Array.getElem_setIfInBounds (by simpa using h1)]
    simp only [fill, Array.getElem_ofFn]
    by_cases e6 : hi * 7 + 6 = j
    · rw [if_pos e6, if_pos (by omega), show j % 7 = 6 by omega]
    rw [if_neg e6]
    by_cases e5 : hi * 7 + 5 = j
    · rw [if_pos e5, if_pos (by omega), show j % 7 = 5 by omega]
    rw [if_neg e5]
    by_cases e4 : hi * 7 + 4 = j
    · rw [if_pos e4, if_pos (by omega), show j % 7 = 4 by omega]
    rw [if_neg e4]
    by_cases e3 : hi * 7 + 3 = j
    · rw [if_pos e3, if_pos (by omega), show j % 7 = 3 by omega]
    rw [if_neg e3]
    by_cases e2 : hi * 7 + 2 = j
    · rw [if_pos e2, if_pos (by omega), show j % 7 = 2 by omega]
    rw [if_neg e2]
    by_cases e1 : hi * 7 + 1 = j
    · rw [if_pos e1, if_pos (by omega), show j % 7 = 1 by omega]
    rw [if_neg e1]
    by_cases e0 : hi * 7 = j
    · rw [if_pos e0, if_pos (by omega), show j % 7 = 0 by omega]
    rw [if_neg e0]
    by_cases q : lo * 7 ≤ j ∧ j < hi * 7
    · rw [if_pos q, if_pos (by omega)]
    · rw [if_neg q, if_neg (by omega)]
/-- At the head of a page's loop. -/
def PageAtO (w : World) (b : Nat) (cs : Array Value) (row : Array Value) (t e : TypeId) (s lo last : Nat) (mk : Nat → Value) (i : Value) (wr : World) : Prop :=
  ∃ k : Nat, lo ≤ k ∧ k ≤ last ∧ i = .int .i64 k ∧ Blk wr b (fill s mk cs lo k) e ∧ Blk wr w.heap.size row t ∧ Keep (· = b) w wr

end Go.Proofs.Ytmfacfnbokadmaa
