/-
  Layer 5's examples.
-/
import Derived.Test.YtajmladlmkkimaaPGrE
namespace Go.Proofs.Ytajmladlmkkimaa
open Go.RowKit
set_option linter.unusedSimpArgs false
set_option linter.unusedVariables false

/-- A list that is told, opened. -/
theorem rowed_shape {w : World} {base : Nat} {e : TypeId} {size : Nat} {v : Value} {n : Nat} {xs : List Value} (h : Rowed w base e size v n xs) :
    ∃ (ao : Option Addr), v = .slice ao n n ∧ (0 < n → ∃ g, ao = some ⟨g, 0, none⟩ ∧ base ≤ g ∧ g < w.heap.size ∧ ∀ j, j < n * size → w.cell? ⟨g, j, none⟩ = xs[j]?) := by
  obtain ⟨h1, h2⟩ := h
  rcases h2 with ⟨rfl, rfl⟩ | ⟨g, cur, rfl, hb, hg, h3, h4, h5⟩
  · exact ⟨none, rfl, fun h => absurd h (by omega)⟩
  · refine ⟨some ⟨g, 0, none⟩, rfl, fun _ => ⟨g, rfl, hb, lt_of_block hg, fun j hj => ?_⟩⟩
    have : w.cell? ⟨g, j, none⟩ = cur[j]? := by simp [World.cell?, hg]
    rw [this, ← h5, List.getElem?_take_of_lt hj, Array.getElem?_toList]
def lvE : List Fw := [⟨1, 2, 5⟩, ⟨2, 1, 1⟩]
def lv0 : Int → Int → Int := newF lvE
theorem lvE_ok : okG lvE := by
  refine ⟨fun x hx => ?_, ?_⟩
  · unfold lvE at hx
    simp at hx
    rcases hx with rfl | rfl <;> (unfold okX; simp)
  · unfold lvE
    simp
theorem lv_inv : GInv lv0 4398046511104 := newF_inv lvE_ok.1
def lv1 : Int → Int → Int := gPushF lv0 1 2 3
def lv2 : Int → Int → Int := gPushF lv1 2 1 4

end Go.Proofs.Ytajmladlmkkimaa
