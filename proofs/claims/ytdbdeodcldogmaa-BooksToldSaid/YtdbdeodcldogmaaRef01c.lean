/-
  The document's answers for layer 1, continued: a whole number as a number of 64 bits, sums and products.
-/
import Derived.Test.YtdbdeodcldogmaaRef01b
import Derived.Test.YtdbdeodcldogmaaLives01
import Derived.Test.YtdbdeodcldogmaaRegion
namespace Go.Proofs.Ytdbdeodcldogmaa
open Go.RowKit
set_option linter.unusedSimpArgs false
set_option linter.unusedVariables false

theorem half_bit (x k : Nat) : x / 2 ^ k = 2 * (x / 2 ^ (k + 1)) + (if x.testBit k then 1 else 0) := by
  rw [← bit_lt, Nat.pow_succ, ← Nat.div_div_eq_div_mul]; omega
theorem two_pow_64_le {k : Nat} (h : 64 ≤ k) : (18446744073709551616 : Nat) ≤ 2 ^ k := by
  have := Nat.pow_le_pow_right (n := 2) (by omega) h
  exact this


theorem build_whole2 (b : Bool) (f : Nat → Bool) (w : World) : (Instr.build 110 #[(0, .bool b), (1, .agg (arr f))]).run Try.prog w = .ok (.agg (whole b f)) w := by
  have h : (Instr.build 110 #[(0, .bool b), (1, .agg (arr f))]).run Try.prog = fun w => .ok (.agg (whole b f)) w := by
    kernel_rfl
  rw [h]
theorem whole_range {w : World} {g : Nat} {neg : Bool} {f : Nat → Bool} {t : TypeId} (h : Blk w g (whole neg f) t) : w.rangeAt g 1 (arr f).toList := by
  intro j v hv
  rw [h.cell (1 + j)]
  have hj : j < 192 := by
    rcases Nat.lt_or_ge j 192 with h | h
    · exact h
    · rw [List.getElem?_eq_none (by simp [arr_size]; omega)] at hv; cases hv
  rw [whole_get _ _ j hj]
  simpa [arr_get f j hj] using hv

theorem info_arr_l (f : Nat → Bool) : (Try.prog.info? 108).map (·.size) = some (arr f).toList.length := by rw [Array.length_toList]; exact info_arr f

/-- The sum of two whole numbers, as a sign and a size. -/
def togSign (na nb : Bool) (x y : Nat) : Bool := if na = nb then na else if x < y then nb else na
def togSize (na nb : Bool) (x y : Nat) : Nat := if na = nb then x + y else if x < y then y - x else x - y


end Go.Proofs.Ytdbdeodcldogmaa
