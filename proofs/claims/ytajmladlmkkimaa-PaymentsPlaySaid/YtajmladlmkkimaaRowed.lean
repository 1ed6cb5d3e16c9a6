/-
  Rows of just their length: what they show; what a call answers that tells such a row.
-/
import Derived.Test.YtajmladlmkkimaaSame
namespace Go.Proofs.Ytajmladlmkkimaa
open Go.RowKit
set_option linter.unusedSimpArgs false
set_option linter.unusedVariables false

theorem Rowed.alloc {w : World} {base : Nat} {e : TypeId} {size : Nat} {v : Value} {n : Nat} {xs : List Value} (h : Rowed w base e size v n xs) (o : Obj) : Rowed (w.alloc o) base e size v n xs :=
  h.below ((Below.refl w.heap.size w).alloc (Nat.le_refl _) o)
theorem Rowed.look {w : World} {base : Nat} {e : TypeId} {size : Nat} {v : Value} {n : Nat} {xs : List Value} (h : Rowed w base e size v n xs) :
    ∃ (ao : Option Addr) (cap : Nat), v = .slice ao n cap ∧ n ≤ cap ∧ cap ≤ maxLen ∧ xs.length = n * size ∧ (0 < n → ∃ b, ao = some ⟨b, 0, none⟩ ∧ base ≤ b ∧ b < w.heap.size ∧ (∀ j, j < n * size → w.cell? ⟨b, j, none⟩ = xs[j]?) ∧ ∀ j, w.frozen? ⟨b, j, none⟩ = false) := by
  obtain ⟨h1, h2⟩ := h
  rcases h2 with ⟨rfl, rfl⟩ | ⟨g, cur, rfl, hb, hg, hm, hc, ht⟩
  · exact ⟨none, 0, rfl, Nat.le_refl _, by decide, h1, fun h => absurd h (by omega)⟩
  · have hB : Blk w g cur e := hg
    refine ⟨some ⟨g, 0, none⟩, n, rfl, Nat.le_refl _, hm, h1, fun _ => ⟨g, rfl, hb, lt_of_block hg, fun j hj => ?_, fun j => hB.frozen j⟩⟩
    rw [hB.cell, ← ht, List.getElem?_take_of_lt hj, Array.getElem?_toList]
/-- What a call answers that tells parties, as a row of just their number. -/
def RowPost (e : TypeId) (L : List Int) (w : World) (en : Ending) (w' : World) : Prop :=
  ∃ v, en = .returned v ∧ Rowed w' w.heap.size e 1 v L.length (L.map (.int .u8)) ∧ Below w.heap.size w w'

end Go.Proofs.Ytajmladlmkkimaa

/-
  Rows of any capacity, in a block of their own: what calls answer, clipped or not.
-/
namespace Go.Proofs.Ytajmladlmkkimaa
open Go.RowKit
set_option linter.unusedSimpArgs false
set_option linter.unusedVariables false

/-- A row of a call's own, of whatever capacity; the block may be greater. -/
def RowA (w : World) (base : Nat) (e : TypeId) (size : Nat) (v : Value) (n : Nat) (xs : List Value) : Prop :=
  xs.length = n * size ∧ ((v = .slice none 0 0 ∧ n = 0) ∨ ∃ g cap cur, v = .slice (some ⟨g, 0, none⟩) n cap ∧ base ≤ g ∧ w.heap[g]? = some (.cells cur e (0, 0)) ∧ n ≤ cap ∧ cap ≤ maxLen ∧ cap * size ≤ cur.size ∧ cur.toList.take (n * size) = xs)
theorem RowA.of_owns {w : World} {base : Nat} {e : TypeId} {size : Nat} {v : Value} {n : Nat} {xs : List Value} (h : w.ownsRow base e size v n xs) : RowA w base e size v n xs := by
  obtain ⟨h1, h2⟩ := h
  refine ⟨h1, ?_⟩
  rcases h2 with h2 | ⟨g, cap, cur, hv, hb, hg, c1, c2, c3, c4⟩
  · exact .inl h2
  · exact .inr ⟨g, cap, cur, hv, hb, hg, c1, c2, by rw [c3]; exact Nat.le_refl _, c4⟩
theorem RowA.of_rowed {w : World} {base : Nat} {e : TypeId} {size : Nat} {v : Value} {n : Nat} {xs : List Value} (h : Rowed w base e size v n xs) : RowA w base e size v n xs := by
  obtain ⟨h1, h2⟩ := h
  refine ⟨h1, ?_⟩
  rcases h2 with h2 | ⟨g, cur, hv, hb, hg, c1, c2, c3⟩
  · exact .inl h2
  · exact .inr ⟨g, n, cur, hv, hb, hg, Nat.le_refl _, c1, c2, c3⟩
section
variable {w w' : World} {base : Nat} {e : TypeId} {size : Nat} {v : Value} {n : Nat} {xs : List Value}
theorem RowA.keep {S : Nat → Prop} (h : RowA w base e size v n xs) (k : Keep S w w') (hs : ∀ b, v.ownBlock = some b → ¬ S b) : RowA w' base e size v n xs := by
  obtain ⟨h1, h2⟩ := h
  refine ⟨h1, ?_⟩
  rcases h2 with h2 | ⟨g, cap, cur, rfl, hb, hg, hr⟩
  · exact .inl h2
  · refine .inr ⟨g, cap, cur, rfl, hb, ?_, hr⟩
    rw [k.block g (lt_of_block hg) (hs g rfl)]
    exact hg
theorem RowA.below (h : RowA w base e size v n xs) (k : Below w.heap.size w w') : RowA w' base e size v n xs :=
  h.keep (Keep.of_below (S := fun _ => False) k) (fun _ _ => id)
theorem RowA.alloc (h : RowA w base e size v n xs) (o : Obj) : RowA (w.alloc o) base e size v n xs :=
  h.below ((Below.refl w.heap.size w).alloc (Nat.le_refl _) o)
theorem RowA.rebase {b' : Nat} (h : RowA w base e size v n xs) (hb : b' ≤ base) : RowA w b' e size v n xs := by
  obtain ⟨h1, h2⟩ := h
  refine ⟨h1, ?_⟩
  rcases h2 with h2 | ⟨g, cap, cur, hv, hg, hr⟩
  · exact .inl h2
  · exact .inr ⟨g, cap, cur, hv, Nat.le_trans hb hg, hr⟩
theorem RowA.type (h : RowA w base e size v n xs) {b : Nat} (hb : v.ownBlock = some b) : base ≤ b ∧ b < w.heap.size ∧ ∃ cur, w.heap[b]? = some (.cells cur e (0, 0)) := by
  obtain ⟨_, h2⟩ := h
  rcases h2 with ⟨rfl, _⟩ | ⟨g, cap, cur, rfl, hge, hg, _⟩
  · cases hb
  · cases hb; exact ⟨hge, lt_of_block hg, cur, hg⟩
theorem RowA.look (h : RowA w base e size v n xs) (h2 : 1 ≤ size) :
    ∃ (ao : Option Addr) (cap : Nat), v = .slice ao n cap ∧ n ≤ cap ∧ cap ≤ maxLen ∧ xs.length = n * size ∧ (0 < n → ∃ b, ao = some ⟨b, 0, none⟩ ∧ base ≤ b ∧ b < w.heap.size ∧ (∀ j, j < n * size → w.cell? ⟨b, j, none⟩ = xs[j]?) ∧ ∀ j, w.frozen? ⟨b, j, none⟩ = false) := by
  obtain ⟨h1, h2⟩ := h
  rcases h2 with ⟨rfl, rfl⟩ | ⟨g, cap, cur, rfl, hb, hg, c1, c2, c3, c4⟩
  · exact ⟨none, 0, rfl, Nat.le_refl _, by decide, h1, fun h => absurd h (by omega)⟩
  · have hB : Blk w g cur e := hg
    refine ⟨some ⟨g, 0, none⟩, cap, rfl, c1, c2, h1, fun _ => ⟨g, rfl, hb, lt_of_block hg, fun j hj => ?_, fun j => hB.frozen j⟩⟩
    rw [hB.cell, ← c4, List.getElem?_take_of_lt hj, Array.getElem?_toList]
theorem RowA.reads (h : RowA w base e size v n xs) (hn : n ≤ 100000000) : Reads w v size n xs := by
  obtain ⟨h1, h2⟩ := h
  rcases h2 with ⟨rfl, rfl⟩ | ⟨g, cap, cur, rfl, _, hg, _, _, hc, ht⟩
  · exact ⟨none, 0, rfl, by omega, h1, fun h => by omega⟩
  · refine ⟨_, cap, rfl, hn, h1, fun hp => ⟨g, 0, rfl, lt_of_block hg, fun j hj => ?_⟩⟩
    rw [Nat.zero_add]
    show w.cell? ⟨g, j, none⟩ = _
    simp only [World.cell?, hg, Option.isSome_none, Bool.false_eq_true, if_false]
    rw [← ht, List.getElem?_take_of_lt hj, Array.getElem?_toList]
end

end Go.Proofs.Ytajmladlmkkimaa
