/-
  The statements' own 'same' on lists of parties and of lines: whether they are the same.
-/
import Derived.Test.YtdbdeodcldogmaaLed
namespace Go.Proofs.Ytdbdeodcldogmaa
open Go.RowKit
set_option linter.unusedSimpArgs false
set_option linter.unusedVariables false

/-- A slice's value, wherever it lies, and the cells of its elements. -/
def Reads (w : World) (v : Value) (size n : Nat) (xs : List Value) : Prop :=
  ∃ (ao : Option Addr) (cap : Nat), v = .slice ao n cap ∧ n ≤ 100000000 ∧ xs.length = n * size ∧ (0 < n → ∃ b off, ao = some ⟨b, off, none⟩ ∧ b < w.heap.size ∧ ∀ j, j < n * size → w.cell? ⟨b, off + j, none⟩ = xs[j]?)
theorem Reads.of_owns {w : World} {base : Nat} {e : TypeId} {size : Nat} {v : Value} {n : Nat} {xs : List Value} (h : w.ownsRow base e size v n xs) (hn : n ≤ 100000000) : Reads w v size n xs := by
  obtain ⟨ao, cap, rfl, _, _, h3, h4⟩ := owns_open h
  refine ⟨ao, cap, rfl, hn, h3, fun hp => ?_⟩
  obtain ⟨b, rfl, _, hb, hc, _⟩ := h4 hp
  exact ⟨b, 0, rfl, hb, fun j hj => by rw [Nat.zero_add]; exact hc j hj⟩
theorem Reads.keep {S : Nat → Prop} {w w' : World} {v : Value} {size n : Nat} {xs : List Value} (h : Reads w v size n xs) (k : Keep S w w') (hs : ∀ b, v.ownBlock = some b → ¬ S b) : Reads w' v size n xs := by
  obtain ⟨ao, cap, rfl, h1, h2, h3⟩ := h
  refine ⟨ao, cap, rfl, h1, h2, fun hp => ?_⟩
  obtain ⟨b, off, rfl, hb, hc⟩ := h3 hp
  exact ⟨b, off, rfl, Nat.lt_of_lt_of_le hb k.size, fun j hj => by rw [k.cell (p := ⟨b, off + j, none⟩) hb (hs b rfl)]; exact hc j hj⟩
theorem Reads.below {w w' : World} {v : Value} {size n : Nat} {xs : List Value} (h : Reads w v size n xs) (k : Below w.heap.size w w') : Reads w' v size n xs :=
  h.keep (Keep.of_below (S := fun _ => False) k) (fun _ _ => id)
theorem take_eq_next {α : Type} {l m : List α} {k : Nat} (h : k < l.length) (hm : k < m.length) (he : l.take k = m.take k) (hx : l[k] = m[k]) : l.take (k + 1) = m.take (k + 1) := by
  rw [List.take_succ_eq_append_getElem h, List.take_succ_eq_append_getElem hm, he, hx]


theorem ln_parts (x y : Ln) : (x = y) ∨ (x ≠ y ∧ (x.cr == y.cr) = false) ∨ (x ≠ y ∧ (x.cr == y.cr) = true ∧ (x.de == y.de) = false) ∨ (x ≠ y ∧ (x.cr == y.cr) = true ∧ (x.de == y.de) = true ∧ (x.cu == y.cu) = false) ∨ (x ≠ y ∧ (x.cr == y.cr) = true ∧ (x.de == y.de) = true ∧ (x.cu == y.cu) = true ∧ (x.li == y.li) = false) ∨ (x ≠ y ∧ (x.cr == y.cr) = true ∧ (x.de == y.de) = true ∧ (x.cu == y.cu) = true ∧ (x.li == y.li) = true ∧ (x.db == y.db) = false) := by
  obtain ⟨a, b, c, d, e⟩ := x
  obtain ⟨a', b', c', d', e'⟩ := y
  by_cases h1 : a = a' <;> by_cases h2 : b = b' <;> by_cases h3 : c = c' <;> by_cases h4 : d = d' <;> by_cases h5 : e = e' <;> simp [h1, h2, h3, h4, h5]


end Go.Proofs.Ytdbdeodcldogmaa
