/-
  Rows of just their length: what they show; what a call answers that tells such a row.
-/
import Derived.Test.YtmfacfnbokadmaaSame
namespace Go.Proofs.Ytmfacfnbokadmaa
open Go.RowKit
set_option linter.unusedSimpArgs false
set_option linter.unusedVariables false

theorem Rowed.alloc {w : World} {base : Nat} {e : TypeId} {size : Nat} {v : Value} {n : Nat} {xs : List Value} (h : Rowed w base e size v n xs) (o : Obj) : Rowed (w.alloc o) base e size v n xs :=
  h.below ((Below.refl w.heap.size w).alloc (Nat.le_refl _) o)
theorem Rowed.look {w : World} {base : Nat} {e : TypeId} {size : Nat} {v : Value} {n : Nat} {xs : List Value} (h : Rowed w base e size v n xs) :
    ∃ (ao : Option Addr) (cap : Nat), v = .slice ao n cap ∧ n ≤ cap ∧ cap ≤ maxLen ∧ xs.length = n * size ∧ (0 < n → ∃ b, ao = some ⟨b, 0, none⟩ ∧ base ≤ b ∧ b < w.heap.size ∧ (∀ j, j < n * size → w.cell? ⟨b, j, none⟩ = xs[j]?) ∧ ∀ j, w.frozen? ⟨b, j, none⟩ = false) := by
  obtain ⟨h1, h2⟩ := h
  rcases h2 with ⟨rfl, rfl⟩ | ⟨g, cur, rfl, hb, hg, hm, hc, ht⟩
  · exact ⟨none, 0, rfl, Nat.le_refl _, by decide, h1, fun h => absurd h (by omega)⟩
  · have hB : Blk w g cur e := hg
    refine ⟨some ⟨g, 0, none⟩, n, rfl, Nat.le_refl _, hm, h1, fun _ => ⟨g, rfl, hb, lt_of_block hg, fun j hj => ?_, fun j => hB.frozen j⟩⟩
    rw [hB.cell, ← ht, List.getElem?_take_of_lt hj, Array.getElem?_toList]
/-- What a call answers that tells parties, as a row of just their number. -/
def RowPost (e : TypeId) (L : List Int) (w : World) (en : Ending) (w' : World) : Prop :=
  ∃ v, en = .returned v ∧ Rowed w' w.heap.size e 1 v L.length (L.map (.int .u8)) ∧ Below w.heap.size w w'

end Go.Proofs.Ytmfacfnbokadmaa
