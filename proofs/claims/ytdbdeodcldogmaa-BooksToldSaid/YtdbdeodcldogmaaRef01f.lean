/-
  The document's answers for layer 1, the end: what Add, Sub, Mul, Sum, Down and Up answer by it.
-/
import Derived.Test.YtdbdeodcldogmaaRef01e
namespace Go.Proofs.Ytdbdeodcldogmaa
open Go.RowKit
set_option linter.unusedSimpArgs false
set_option linter.unusedVariables false

theorem whole_extract (neg : Bool) (f : Nat → Bool) : (whole neg f).extract 1 193 = arr f := by
  apply Array.ext_getElem?
  intro j
  rw [Array.getElem?_extract, whole_size]
  by_cases hj : j < 192
  · rw [if_pos (by omega), whole_get _ _ j hj, arr_get _ j hj]
  · rw [if_neg (by omega), Array.getElem?_eq_none (by rw [arr_size]; omega)]

/-- A guarded operation that is wanted. -/
theorem wpList_wanted {P : Program} {ops : Array Oper} {rest : List Oper} {o : Oper} {a : Act} {w : World} {Q : Exit → Act → World → Prop} (hw : Region.wanted o (yielded ops a.tmps) = true)
    (h : ∀ K : Act → World → Prop, (∀ a w, wpList P ops Q rest a w → K a w) → o.wp P a w K Q) : wpList P ops Q (o :: rest) a w :=
  wpList_step fun K hK => by rw [if_pos hw]; exact h K hK

theorem run_field_bits (neg : Bool) (f : Nat → Bool) (w : World) : (Instr.field 110 (.agg (whole neg f)) 1).run Try.prog w = .ok (.agg (arr f)) w := by
  have h1 : (isAgg 108).run Try.prog w = .ok true w := by kernel_rfl
  have h2 : (sizeOf 108).run Try.prog w = .ok 192 w := by kernel_rfl
  simp [Instr.field, run_underlying Try.underlying110, asAgg, part, h1, h2, whole_extract]
theorem run_eq_arr (f g : Nat → Bool) (w : World) :
    (Op.equalIn 10000 108 (.agg (arr f)) (.agg (arr g))).run Try.prog w = .ok ((List.range 192).all fun i => f i == g i) w := by
  refine run_equalIn_cells (P := Try.prog) 9999 108 4 192 Try.underlying108 (fun w => by kernel_rfl) (fun w => by kernel_rfl) (arr f) (arr g) (arr_size f) (arr_size g) _ ?_ w
  intro i x y w hx hy
  have hi : i < 192 := by
    rcases Nat.lt_or_ge i 192 with h | h
    · exact h
    · rw [Array.getElem?_eq_none (by rw [arr_size]; omega)] at hx; cases hx
  rw [arr_get f i hi] at hx
  rw [arr_get g i hi] at hy
  cases hx; cases hy
  exact run_equalIn_bool' w 9998 4 (f i) (g i) Try.underlying4

end Go.Proofs.Ytdbdeodcldogmaa
