/-
  Appends to nothing, in a region that draws its order.
-/
import Derived.Test.YtajmladlmkkimaaRegion
import Derived.Test.YtajmladlmkkimaaHeap
import Derived.Laws.AppendOwnNone
namespace Go.Proofs.Ytajmladlmkkimaa
open Go.RowKit
set_option linter.unusedSimpArgs false
set_option linter.unusedVariables false

/-- 'append([]T(nil), src...)': a row of its own with the same. -/
theorem run_append_copy {P : Program} {w : World} (t ty e : TypeId) {z : Value} {size bytes : Nat}
    (hi : (P.info? e).map (fun i => (i.zero, i.size, i.bytes)) = some (some z, size, bytes)) (ht : P.underlying t = some (.slice e)) (hzs : z.cells.size = size) (hsz : 0 < size) (hbs : bytes ≤ 1000)
    (base : Nat) (v : Value) (n : Nat) (xs : List Value) (hown : w.ownsRow base e size v n xs) (h1 : ∀ u ∈ xs, u.oneCell' = true) (hn : n ≤ 100000) :
    ∃ v' w', (Builtin.append_ #[t, t] ty #[.slice none 0 0, v]).run P w = .ok v' w' ∧ w'.ownsRow w.heap.size e size v' n xs ∧ Below w.heap.size w w' := by
  obtain ⟨i, hi1, hi2, hi3, hi4⟩ := info_parts hi
  have h0 := World.ownsRow_nil w w.heap.size e size
  obtain ⟨ao, cap, rfl, c1, c2, c3, c4⟩ := owns_open hown
  cases ao with
  | none =>
    have hz : n = 0 := by
      rcases Nat.eq_zero_or_pos n with e | e
      · exact e
      · obtain ⟨b, hb, _⟩ := c4 e; cases hb
    have hcap : cap = 0 := by
      rcases hown.2 with ⟨e, _⟩ | ⟨g, cap', cur, e, _⟩
      · cases e; rfl
      · cases e
    subst hz
    subst hcap
    have hxs : xs = [] := List.eq_nil_of_length_eq_zero (by simpa using c3)
    subst hxs
    exact ⟨_, _, run_append_owned_none (P := P) (w := w) w.heap.size t ty e i size ht hi1 (.slice none 0 0) 0 [] h0, h0, Below.refl _ _⟩
  | some ad =>
    have hcells : ∀ j u, xs[j]? = some u → w.cell? (ad.add j) = some u := by
      intro j u hj
      have hjl : j < xs.length := (List.getElem?_eq_some_iff.1 hj).1
      have hp : 0 < n := by
        rcases Nat.eq_zero_or_pos n with e | e
        · subst e; rw [c3] at hjl; omega
        · exact e
      obtain ⟨b, hb, _, _, hc, _⟩ := c4 hp
      cases hb
      rw [Go.WideShapes.add_plain, Nat.zero_add, hc j (by omega)]
      exact hj
    have hbb := Nat.mul_le_mul hn hbs
    obtain ⟨v', w', hr, h2, h3, _⟩ := run_append_own (P := P) w w.heap.size t ty e i z size bytes ht hi1 hi2 hi3 hi4 hzs hsz (.slice none 0 0) 0 [] h0 ad n cap xs c3 hcells h1 (by unfold maxLen; omega) (by rw [Nat.zero_add]; omega) (Nat.le_refl _)
    simp only [Nat.zero_add, List.nil_append] at h2
    exact ⟨v', w', hr, h2, (Below.refl w.heap.size w).grown h3 (Nat.le_refl _) (fun k hk => by cases hk)⟩
theorem wp_append_of {P : Program} {w w' : World} {o : Oper} {a : Act} {K : Act → World → Prop} {Q : Exit → Act → World → Prop} (x : Operand) (t : TypeId) {v v' : Value}
    (ho : o.op = .call { callee := .builtin .append, args := #[.const (.slice none 0 0), x], argTypes := #[t, t] }) (hx : a.eval x = v)
    (hr : (Builtin.append_ #[t, t] o.type #[.slice none 0 0, v]).run P w = .ok v' w') (h : K (a.put o.dst v') w') : o.wp P a w K Q := by
  have hc : a.eval (.const (.slice none 0 0)) = .slice none 0 0 := rfl
  unfold Oper.wp execOp
  simp only [ho, resolve, invoke, builtin, Sem.run_bind, Sem.run_pure, Result.andThen_ok, List.map_toArray, List.map_cons, List.map_nil, hc, hx, hr]
  exact h
theorem not_done {ops : Array Oper} {D : Nat → Bool} (hC : Closed ops D) {j k : Nat} (hj : D j = false) {o : Oper} (ho : ops[k]? = some o) (he : ∃ e ∈ o.after, Region.binds .any e = true ∧ e.on = j) : D k = false := by
  obtain ⟨e, he, hb, hon⟩ := he
  by_cases h : D k = true
  · have := hC k o ho h e he hb
    rw [hon, hj] at this; cases this
  · simpa using h

end Go.Proofs.Ytajmladlmkkimaa
