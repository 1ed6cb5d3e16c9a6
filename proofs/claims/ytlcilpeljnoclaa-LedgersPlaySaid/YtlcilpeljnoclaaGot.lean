/-
  A region that draws its order, whose calls make values that hang on the run (each under a property), and leave old memory as it is.
-/
import Derived.Test.YtlcilpeljnoclaaOnce
import Derived.Test.YtlcilpeljnoclaaFresh
namespace Go.Proofs.Ytlcilpeljnoclaa
open Go.RowKit
set_option linter.unusedSimpArgs false
set_option linter.unusedVariables false

def updV (s : Nat → Value) (p : Nat) (v : Value) : Nat → Value := fun j => match j == p with
  | true => v
  | false => s j
theorem updV_self (s : Nat → Value) (p : Nat) (v : Value) : updV s p v p = v := by simp [updV]
theorem updV_ne (s : Nat → Value) {p j : Nat} (v : Value) (h : j ≠ p) : updV s p v j = s j := by
  unfold updV
  have e : (j == p) = false := by simpa using h
  rw [e]
/-- What is held while operations make values: each of l's, once it is done, has its property. -/
def Got (W : World) (l : List (Nat × (Value → World → Prop))) (s : Nat → Value) (D : Nat → Bool) (w : World) : Prop :=
  Below W.heap.size W w ∧ ∀ q ∈ l, D q.1 = true → q.2 (s q.1) w
def Lasts (P : Value → World → Prop) : Prop := ∀ v w w', P v w → Below w.heap.size w w' → P v w'
theorem Got.start (W : World) (l : List (Nat × (Value → World → Prop))) (s : Nat → Value) : Got W l s (fun _ => false) W.drew := ⟨(Below.refl _ _).drew, fun _ _ d => (Bool.false_ne_true d).elim⟩
theorem Got.below {W : World} {l : List (Nat × (Value → World → Prop))} {s : Nat → Value} {D : Nat → Bool} {w : World} (h : Got W l s D w) : Below W.heap.size W w := h.1
theorem Got.at {W : World} {l : List (Nat × (Value → World → Prop))} {s : Nat → Value} {D : Nat → Bool} {w : World} (h : Got W l s D w) (q : Nat × (Value → World → Prop)) (hq : q ∈ l) (hd : D q.1 = true) : q.2 (s q.1) w := h.2 q hq hd
theorem Got.step {W w w' : World} {l : List (Nat × (Value → World → Prop))} {s : Nat → Value} {D : Nat → Bool} (h : Got W l s D w) (hl : ∀ q ∈ l, Lasts q.2) (hb : Below w.heap.size w w') {k : Nat} (hk : ∀ q ∈ l, q.1 ≠ k) : Got W l s (ins k D) w' := by
  refine ⟨h.1.trans (hb.mono h.1.size), fun q hq d => hl q hq _ _ _ (h.2 q hq ?_) hb⟩
  simpa [ins, hk q hq] using d
theorem Got.put {W w w' : World} {l : List (Nat × (Value → World → Prop))} {s : Nat → Value} {D : Nat → Bool} (h : Got W l s D w) (hl : ∀ q ∈ l, Lasts q.2) (hb : Below w.heap.size w w') {p : Nat} {v : Value} (hv : ∀ q ∈ l, q.1 = p → q.2 v w') : Got W l (updV s p v) (ins p D) w' := by
  refine ⟨h.1.trans (hb.mono h.1.size), fun q hq d => ?_⟩
  by_cases e : q.1 = p
  · rw [e, updV_self]; exact hv q hq e
  · rw [updV_ne _ _ e]
    exact hl q hq _ _ _ (h.2 q hq (by simpa [ins, e] using d)) hb
theorem vals_put {n : Nat} (ops : Array Oper) (vals : (Nat → Value) → List Value) (s : Nat → Value) (p : Nat) (v : Value) {D : Nat → Bool} (hC : Closed ops D) (hp : D p = false)
    (h : ∀ j, j < n → (j = p ∨ (need ops j).testBit p = true) ∨ (vals s).getD j undef = (vals (updV s p v)).getD j undef) : ∀ j, j < n → D j = true → (vals s).getD j undef = (vals (updV s p v)).getD j undef := by
  intro j hj hD
  rcases h j hj with (rfl | h) | h
  · rw [hp] at hD; cases hD
  · rw [need_not hC hp j h] at hD; cases hD
  · exact h

end Go.Proofs.Ytlcilpeljnoclaa
