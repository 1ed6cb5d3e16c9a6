/-
  What a twin of a list is. No program.
-/
import Derived.Test.YtdbdeodcldogmaaSame
import Derived.OwnWalk
import Derived.BigQuiet
namespace Go.Proofs.Ytdbdeodcldogmaa
open Go.RowKit
set_option linter.unusedSimpArgs false
set_option linter.unusedVariables false

theorem Reads.src {w : World} {ao : Option Addr} {size n cap : Nat} {xs : List Value} (h : Reads w (.slice ao n cap) size n xs) : ∀ ad, ao = some ad → ∀ j u, xs[j]? = some u → w.cell? (ad.add j) = some u := by
  rintro ad rfl j u hu
  obtain ⟨ao', cap', hv, _, hlen, h3⟩ := h
  cases hv
  have hj : j < xs.length := by
    obtain ⟨hj, _⟩ := List.getElem?_eq_some_iff.1 hu
    exact hj
  have hn : 0 < n := by
    rcases Nat.eq_zero_or_pos n with rfl | hn
    · omega
    · exact hn
  obtain ⟨b, off, e, _, hc⟩ := h3 hn
  cases e
  rw [Go.WideShapes.add_plain, hc j (by omega)]
  exact hu
theorem Reads.ofNone {w : World} {ao : Option Addr} {size n cap : Nat} {xs : List Value} (h : Reads w (.slice ao n cap) size n xs) (h0 : ao = none → cap = 0) : ao = none → n = 0 ∧ cap = 0 := by
  intro e
  refine ⟨?_, h0 e⟩
  obtain ⟨ao', cap', hv, _, _, h3⟩ := h
  cases hv
  rcases Nat.eq_zero_or_pos n with hn | hn
  · exact hn
  · obtain ⟨b, off, e', _⟩ := h3 hn
    rw [e] at e'; cases e'
/-- A twin in block g: its n elements, and two marks behind. -/
def Twinned (w : World) (base g : Nat) (e : TypeId) (size n : Nat) (xs marks : List Value) : Prop := w.ownsRow base e size (.slice (some ⟨g, 0, none⟩) (n + 2) (n + 2)) (n + 2) (xs ++ marks)
theorem Twinned.keep {S : Nat → Prop} {w w' : World} {base g : Nat} {e : TypeId} {size n : Nat} {xs marks : List Value} (h : Twinned w base g e size n xs marks) (k : Keep S w w') (hs : ¬ S g) : Twinned w' base g e size n xs marks :=
  owns_keep h k (fun b hb => by cases hb; exact hs)
theorem Twinned.below {w w' : World} {base g : Nat} {e : TypeId} {size n : Nat} {xs marks : List Value} (h : Twinned w base g e size n xs marks) (k : Below w.heap.size w w') : Twinned w' base g e size n xs marks := owns_below h k
theorem Twinned.cells {w : World} {base g : Nat} {e : TypeId} {size n : Nat} {xs marks : List Value} (h : Twinned w base g e size n xs marks) : g < w.heap.size ∧ ∀ j, j < (n + 2) * size → w.cell? ⟨g, j, none⟩ = (xs ++ marks)[j]? := by
  obtain ⟨ao, cap, hv, _, _, _, hr⟩ := owns_open h
  cases hv
  obtain ⟨b, hb, _, hlt, hc, _⟩ := hr (by omega)
  cases hb
  exact ⟨hlt, hc⟩
theorem Twinned.reads {w : World} {base g : Nat} {e : TypeId} {size n : Nat} {xs marks : List Value} (h : Twinned w base g e size n xs marks) (hn : n ≤ 100000000) (hx : xs.length = n * size) : Reads w (.slice (some ⟨g, 0, none⟩) n (n + 2)) size n xs := by
  obtain ⟨hlt, hc⟩ := h.cells
  refine ⟨_, _, rfl, hn, hx, fun _ => ⟨g, 0, rfl, hlt, fun j hj => ?_⟩⟩
  rw [Nat.zero_add, hc j (by rw [Nat.add_mul]; omega), List.getElem?_append_left (by omega)]
def TwinDone (w : World) (e : TypeId) (size n : Nat) (xs marks : List Value) (en : Ending) (w' : World) : Prop :=
  ∃ g, en = .returned (.slice (some ⟨g, 0, none⟩) n (n + 2)) ∧ w.heap.size ≤ g ∧ Twinned w' w.heap.size g e size n xs marks ∧ Below w.heap.size w w'

end Go.Proofs.Ytdbdeodcldogmaa
