/-
  The document's answers for layer 1, continued: a size by another one.
-/
import Derived.Test.YtdbdeodcldogmaaRef01d
namespace Go.Proofs.Ytdbdeodcldogmaa
open Go.RowKit
set_option linter.unusedSimpArgs false
set_option linter.unusedVariables false

/-- One digit of a quotient, from above. -/
theorem div_step (x y k : Nat) (hy : 0 < y) :
    x / 2 ^ k / y = 2 * (x / 2 ^ (k + 1) / y) + (if y ≤ 2 * (x / 2 ^ (k + 1) % y) + (if x.testBit k then 1 else 0) then 1 else 0) ∧
    x / 2 ^ k % y = 2 * (x / 2 ^ (k + 1) % y) + (if x.testBit k then 1 else 0) - (if y ≤ 2 * (x / 2 ^ (k + 1) % y) + (if x.testBit k then 1 else 0) then y else 0) := by
  have hh := half_bit x k
  rw [hh]
  generalize x / 2 ^ (k + 1) = n at *
  have hb : (if x.testBit k then 1 else 0 : Nat) ≤ 1 := by split <;> omega
  generalize (if x.testBit k then 1 else 0 : Nat) = b at *
  have hdm := Nat.div_add_mod n y
  have hm := Nat.mod_lt n hy
  have e : 2 * n + b = y * (2 * (n / y)) + (2 * (n % y) + b) := by
    rw [Nat.mul_left_comm]; omega
  have e1 : (2 * n + b) / y = 2 * (n / y) + (2 * (n % y) + b) / y := by rw [e, Nat.mul_add_div hy]
  have e2 : (2 * n + b) % y = (2 * (n % y) + b) % y := by rw [e, Nat.mul_add_mod]
  rw [e1, e2]
  generalize n % y = r at *
  by_cases h : y ≤ 2 * r + b
  · rw [if_pos h, if_pos h]
    have e3 : (2 * r + b) / y = 1 := Nat.div_eq_of_lt_le (by omega) (by omega)
    have e4 : (2 * r + b) % y = 2 * r + b - y := by rw [Nat.mod_eq_sub_mod h, Nat.mod_eq_of_lt (by omega)]
    rw [e3, e4]; omega
  · have e3 : (2 * r + b) / y = 0 := Nat.div_eq_of_lt (by omega)
    have e4 : (2 * r + b) % y = 2 * r + b := Nat.mod_eq_of_lt (by omega)
    rw [if_neg h, if_neg h, e3, e4]; omega
theorem quot_bit (x y k : Nat) (hy : 0 < y) : (x / y).testBit k = decide (y ≤ 2 * (x / 2 ^ (k + 1) % y) + (if x.testBit k then 1 else 0)) := by
  have h := (div_step x y k hy).1
  rw [Nat.testBit_eq_decide_div_mod_eq, Nat.div_div_eq_div_mul, Nat.mul_comm y, ← Nat.div_div_eq_div_mul, h, decide_eq_decide]
  generalize x / 2 ^ (k + 1) / y = m
  by_cases hc : y ≤ 2 * (x / 2 ^ (k + 1) % y) + (if x.testBit k then 1 else 0)
  · rw [if_pos hc]; simp only [hc, iff_true]; omega
  · rw [if_neg hc]; simp only [hc, iff_false]; omega

theorem double_set (r : Nat) (b : Bool) : (arr (r * 2 ^ 1).testBit).setIfInBounds 0 (.bool b) = arr (2 * r + (if b then 1 else 0)).testBit := by
  rw [arr_set]
  refine arr_congr fun j hj => ?_
  cases j with
  | zero => cases b <;> simp [Nat.testBit_zero] <;> omega
  | succ j =>
    rw [if_neg (by omega), Nat.testBit_succ, Nat.testBit_succ]
    congr 1
    cases b <;> simp <;> omega
theorem above_set (q k : Nat) (h : q.testBit k = true) : (arr fun j => decide (k + 1 ≤ j) && q.testBit j).setIfInBounds k (.bool true) = arr fun j => decide (k ≤ j) && q.testBit j := by
  rw [arr_set]
  refine arr_congr fun j hj => ?_
  by_cases h1 : j = k
  · subst h1; simp [h]
  · have : (k + 1 ≤ j) = (k ≤ j) := by simp; omega
    simp [h1, this]
theorem above_skip (q k : Nat) (h : q.testBit k = false) : (arr fun j => decide (k + 1 ≤ j) && q.testBit j) = arr fun j => decide (k ≤ j) && q.testBit j := by
  refine arr_congr fun j hj => ?_
  by_cases h1 : j = k
  · subst h1; simp [h]
  · have : (k + 1 ≤ j) = (k ≤ j) := by simp; omega
    simp [this]


end Go.Proofs.Ytdbdeodcldogmaa
