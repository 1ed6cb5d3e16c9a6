/-
  SameLines, SameParties.
-/
import Derived.Test.YtajmladlmkkimaaSortL
import Derived.Test.YtajmladlmkkimaaSame
namespace Go.Proofs.Ytajmladlmkkimaa
open Go.RowKit
set_option linter.unusedSimpArgs false
set_option linter.unusedVariables false

theorem SameLines_any {w : World} {va vb : Value} {la lb : List Ln} (ha : Reads w va 5 la.length (lnCells la)) (hb : Reads w vb 5 lb.length (lnCells lb)) :
    Calls Try.prog 28 #[va, vb] w fun e w' => e = .returned (.bool (decide (la = lb))) ∧ Below w.heap.size w w' := by
  have C := Lib.hid (sameLine_any ha hb)
  clear ha hb
  generalize decide (la = lb) = r at *
  go_enter Try.func28, Try.ntmps28
  go_wp2_with fail
  refine C.out.mono ?_
  rintro e w1 ⟨rfl, b1⟩
  go_wp2_with fail
  go_ret
  exact ⟨rfl, b1⟩
theorem SameParties_any {w : World} {va vb : Value} {la lb : List Int} (ha : Reads w va 1 la.length (la.map (.int .u8))) (hb : Reads w vb 1 lb.length (lb.map (.int .u8))) :
    Calls Try.prog 63 #[va, vb] w fun e w' => e = .returned (.bool (decide (la = lb))) ∧ Below w.heap.size w w' := by
  have C := Lib.hid (sameParty_any ha hb)
  clear ha hb
  generalize decide (la = lb) = r at *
  go_enter Try.func63, Try.ntmps63
  go_wp2_with fail
  refine C.out.mono ?_
  rintro e w1 ⟨rfl, b1⟩
  go_wp2_with fail
  go_ret
  exact ⟨rfl, b1⟩
/-- What a walk reads of a row of just its length. -/
theorem Rowed.open {w : World} {base : Nat} {e : TypeId} {size : Nat} {v : Value} {n : Nat} {xs : List Value} (h : Rowed w base e size v n xs) :
    ∃ (ao : Option Addr) (cap : Nat), v = .slice ao n cap ∧ n ≤ cap ∧ cap ≤ maxLen ∧ (0 < n → ∃ b, ao = some ⟨b, 0, none⟩ ∧ base ≤ b ∧ b < w.heap.size ∧ (∀ j, j < n * size → w.cell? ⟨b, j, none⟩ = xs[j]?) ∧ ∀ j, w.frozen? ⟨b, j, none⟩ = false) := by
  obtain ⟨h1, h2⟩ := h
  rcases h2 with ⟨rfl, rfl⟩ | ⟨g, cur, rfl, hb, hg, hm, hc, ht⟩
  · exact ⟨none, 0, rfl, Nat.le_refl _, by unfold maxLen; omega, fun h => by omega⟩
  · refine ⟨_, n, rfl, Nat.le_refl _, hm, fun hp => ⟨g, rfl, hb, lt_of_block hg, fun j hj => ?_, fun j => by simp [World.frozen?, hg]⟩⟩
    simp only [World.cell?, hg, Option.isSome_none, Bool.false_eq_true, if_false]
    rw [← ht, List.getElem?_take_of_lt hj, Array.getElem?_toList]

end Go.Proofs.Ytajmladlmkkimaa
