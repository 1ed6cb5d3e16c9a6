/-
  A region that draws its order, in which just one operation changes old memory.
-/
import Derived.Test.YtgebplplpenabaaLays
namespace Go.Proofs.Ytgebplplpenabaa
open Go.RowKit
set_option linter.unusedSimpArgs false
set_option linter.unusedVariables false

/-- Ahead of operation c the memory is S, behind it T. -/
def Once (c : Nat) (S T : World → Prop) (D : Nat → Bool) (w : World) : Prop := (D c = false → S w) ∧ (D c = true → T w)
theorem Once.start {c : Nat} {S T : World → Prop} {w : World} (h : S w) : Once c S T (fun _ => false) w := ⟨fun _ => h, fun h => (Bool.false_ne_true h).elim⟩
theorem Once.pre {c : Nat} {S T : World → Prop} {D : Nat → Bool} {w : World} (h : Once c S T D w) (hn : D c = false) : S w := h.1 hn
theorem Once.post {c : Nat} {S T : World → Prop} {D : Nat → Bool} {w : World} (h : Once c S T D w) (hn : D c = true) : T w := h.2 hn
theorem Once.keepS {c : Nat} {S T : World → Prop} {D : Nat → Bool} {w : World} {k : Nat} (hk : k ≠ c) (hn : D c = false) (h : S w) : Once c S T (ins k D) w := by
  have e : ins k D c = D c := by simp [ins, Ne.symm hk]
  exact ⟨fun _ => h, fun d => (by rw [e, hn] at d; cases d)⟩
theorem Once.keepT {c : Nat} {S T : World → Prop} {D : Nat → Bool} {w : World} {k : Nat} (hk : k ≠ c) (hn : D c = true) (h : T w) : Once c S T (ins k D) w := by
  have e : ins k D c = D c := by simp [ins, Ne.symm hk]
  exact ⟨fun d => (by rw [e, hn] at d; cases d), fun _ => h⟩
theorem Once.done {c : Nat} {S T : World → Prop} {D : Nat → Bool} {w : World} (h : T w) : Once c S T (ins c D) w := by
  have e : ins c D c = true := by simp [ins]
  exact ⟨fun d => (by rw [e] at d; cases d), fun _ => h⟩

/-- Whom an operation waits for, over whichever others: a set of numbers, as bits. -/
def needStep (ops : Array Oper) (m i : Nat) : Nat := match m.testBit i with
  | true => match ops[i]? with
    | some o => o.after.foldl (fun m e => match Region.binds .any e with
      | true => m ||| 2 ^ e.on
      | false => m) m
    | none => m
  | false => m
def need (ops : Array Oper) (c : Nat) : Nat := (List.range (c + 1)).reverse.foldl (needStep ops) (2 ^ c)
theorem needStep_done {ops : Array Oper} {D : Nat → Bool} (hC : Closed ops D) {m : Nat} (i : Nat) (hm : ∀ j, m.testBit j = true → D j = true) : ∀ j, (needStep ops m i).testBit j = true → D j = true := by
  intro j hj
  unfold needStep at hj
  split at hj
  · rename_i hi
    split at hj
    · rename_i o ho
      have hw := hC i o ho (hm i hi)
      rw [← Array.foldl_toList] at hj
      have key : ∀ (l : List Edge) (m : Nat), (∀ e ∈ l, e ∈ o.after) → (∀ j, m.testBit j = true → D j = true) → ∀ j, (l.foldl (fun m e => match Region.binds .any e with | true => m ||| 2 ^ e.on | false => m) m).testBit j = true → D j = true := by
        intro l
        induction l with
        | nil => intro m _ h j hj; exact h j hj
        | cons e r ih =>
          intro m he h j hj
          rw [List.foldl_cons] at hj
          refine ih _ (fun e' h' => he e' (List.mem_cons_of_mem _ h')) ?_ j hj
          intro j' hj'
          split at hj'
          · rename_i hb
            rw [Nat.testBit_or, Bool.or_eq_true] at hj'
            rcases hj' with hj' | hj'
            · exact h j' hj'
            · rw [Nat.testBit_two_pow, decide_eq_true_eq] at hj'
              subst hj'
              exact hw e (he e List.mem_cons_self) hb
          · exact h j' hj'
      exact key _ m (fun e he => by simpa using he) hm j hj
    · exact hm j hj
  · exact hm j hj
theorem need_done {ops : Array Oper} {D : Nat → Bool} (hC : Closed ops D) {c : Nat} (hc : D c = true) : ∀ j, (need ops c).testBit j = true → D j = true := by
  have key : ∀ (l : List Nat) (m : Nat), (∀ j, m.testBit j = true → D j = true) → ∀ j, (l.foldl (needStep ops) m).testBit j = true → D j = true := by
    intro l
    induction l with
    | nil => intro m h j hj; exact h j hj
    | cons i r ih => intro m h j hj; exact ih _ (needStep_done hC i h) j hj
  refine key _ _ fun j hj => ?_
  rw [Nat.testBit_two_pow, decide_eq_true_eq] at hj
  subst hj; exact hc
theorem need_not {ops : Array Oper} {D : Nat → Bool} (hC : Closed ops D) {j : Nat} (hj : D j = false) (c : Nat) (h : (need ops c).testBit j = true) : D c = false := by
  cases hc : D c with
  | false => rfl
  | true => rw [need_done hC hc j h] at hj; cases hj
theorem need_waited {ops : Array Oper} {D : Nat → Bool} (hC : Closed ops D) {o : Oper} (hw : Waited D o) {c : Nat} (h : (o.after.any fun e => Region.binds .any e && (need ops e.on).testBit c) = true) : D c = true := by
  obtain ⟨e, he, hb⟩ := Array.any_eq_true'.1 h
  simp only [Bool.and_eq_true] at hb
  exact need_done hC (hw e he hb.1) c hb.2

end Go.Proofs.Ytgebplplpenabaa

/-
  A region of a function's body, found by its number; a region that draws its order, in which just one operation changes old memory.
-/
namespace Go.Proofs.Ytgebplplpenabaa
open Go.RowKit
set_option linter.unusedSimpArgs false
set_option linter.unusedVariables false

/-- The region of this number. -/
def regionNo (n : Nat) : Code → Option Code
  | .region i ops m => match i == n with
    | true => some (.region i ops m)
    | false => none
  | .seq a b => match regionNo n a with
    | some c => some c
    | none => regionNo n b
  | .cond _ a b => match regionNo n a with
    | some c => some c
    | none => regionNo n b
  | .block _ c => regionNo n c
  | .scope c => regionNo n c
  | .loop c => regionNo n c
  | _ => none

end Go.Proofs.Ytgebplplpenabaa
