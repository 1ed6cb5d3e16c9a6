/-
  The statements' own book of pages: a page of parties, a page of lines: written over, and whether it stands.
-/
import Derived.Test.YtmfacfnbokadmaaHeap
import Derived.Test.YtmfacfnbokadmaaRegionG
namespace Go.Proofs.Ytmfacfnbokadmaa
open Go.RowKit
set_option linter.unusedSimpArgs false
set_option linter.unusedVariables false

/-- Cells written over from element lo up to element hi, each of s cells. -/
def fill (s : Nat) (mk : Nat → Value) (cs : Array Value) (lo hi : Nat) : Array Value := Array.ofFn (n := cs.size) fun j => if lo * s ≤ j.val ∧ j.val < hi * s then mk (j.val % s) else cs[j]
theorem fill_size (s : Nat) (mk : Nat → Value) (cs : Array Value) (lo hi : Nat) : (fill s mk cs lo hi).size = cs.size := by simp [fill]
theorem fill_get (s : Nat) (mk : Nat → Value) (cs : Array Value) (lo hi j : Nat) (h : j < cs.size) : (fill s mk cs lo hi)[j]? = some (if lo * s ≤ j ∧ j < hi * s then mk (j % s) else cs[j]) := by
  rw [Array.getElem?_eq_getElem (by rw [fill_size]; exact h)]
  simp [fill]
theorem fill_none (s : Nat) (mk : Nat → Value) (cs : Array Value) (lo : Nat) : fill s mk cs lo lo = cs := by
  apply Array.ext
  · rw [fill_size]
  · intro j h1 h2
    simp [fill]
    intro a b; omega
theorem fill_next1 (mk : Nat → Value) (cs : Array Value) (lo hi : Nat) (hl : lo ≤ hi) (h : hi < cs.size) : (fill 1 mk cs lo hi).setIfInBounds hi (mk 0) = fill 1 mk cs lo (hi + 1) := by
  apply Array.ext
  · simp [fill_size]
  · intro j h1 h2
    rw [Array.getElem_setIfInBounds (by simpa using h1)]
    simp only [fill, Array.getElem_ofFn, Nat.mul_one, Nat.mod_one]
    by_cases e : hi = j
    · subst e; simp [hl]
    · rw [if_neg e]
      by_cases q : lo ≤ j ∧ j < hi
      · rw [if_pos q, if_pos (by omega)]
      · rw [if_neg q, if_neg (by omega)]
theorem fill_next5 (mk : Nat → Value) (cs : Array Value) (lo hi : Nat) (hl : lo ≤ hi) (h : (hi + 1) * 5 ≤ cs.size) :
    (((((fill 5 mk cs lo hi).setIfInBounds (hi * 5) (mk 0)).setIfInBounds (hi * 5 + 1) (mk 1)).setIfInBounds (hi * 5 + 2) (mk 2)).setIfInBounds (hi * 5 + 3) (mk 3)).setIfInBounds (hi * 5 + 4) (mk 4) = fill 5 mk cs lo (hi + 1) := by
  apply Array.ext
  · simp [fill_size]
  · intro j h1 h2
    simp only [Array.size_setIfInBounds] at h1
    repeat rw [Array.getElem_setIfInBounds (by simpa using h1)]
    simp only [fill, Array.getElem_ofFn]
    by_cases e4 : hi * 5 + 4 = j
    · rw [if_pos e4, if_pos (by omega), show j % 5 = 4 by omega]
    rw [if_neg e4]
    by_cases e3 : hi * 5 + 3 = j
    · rw [if_pos e3, if_pos (by omega), show j % 5 = 3 by omega]
    rw [if_neg e3]
    by_cases e2 : hi * 5 + 2 = j
    · rw [if_pos e2, if_pos (by omega), show j % 5 = 2 by omega]
    rw [if_neg e2]
    by_cases e1 : hi * 5 + 1 = j
    · rw [if_pos e1, if_pos (by omega), show j % 5 = 1 by omega]
    rw [if_neg e1]
    by_cases e0 : hi * 5 = j
    · rw [if_pos e0, if_pos (by omega), show j % 5 = 0 by omega]
    rw [if_neg e0]
    by_cases q : lo * 5 ≤ j ∧ j < hi * 5
    · rw [if_pos q, if_pos (by omega)]
    · rw [if_neg q, if_neg (by omega)]


end Go.Proofs.Ytmfacfnbokadmaa
