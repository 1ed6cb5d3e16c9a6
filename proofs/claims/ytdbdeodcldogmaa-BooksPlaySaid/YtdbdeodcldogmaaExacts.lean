/-
  Package exacts: what each of its functions answers. A number of 128 bits is held in two words.
-/
import Derived.Test.YtdbdeodcldogmaaBits
import Derived.Deep.RegionWith
namespace Go.Proofs.Ytdbdeodcldogmaa
open Go.RowKit
set_option linter.unusedSimpArgs false
set_option linter.unusedVariables false

def hi64 (x : Int) : Int := x / 18446744073709551616 % 18446744073709551616
def lo64 (x : Int) : Int := x % 18446744073709551616
/-- A whole number, as package exacts holds it: two words, the upper one first. -/
def wideV (x : Int) : Value := .agg #[.int .u64 (hi64 x), .int .u64 (lo64 x)]
theorem hi64_bd (x : Int) : InU64 (hi64 x) := by unfold hi64 InU64; omega
theorem lo64_bd (x : Int) : InU64 (lo64 x) := by unfold lo64 InU64; omega
theorem wideV_eq (x : Int) : wideV x = .agg #[.int .u64 (hi64 x), .int .u64 (lo64 x)] := rfl
theorem wideV_mk (x a b : Int) (ha : a = hi64 x) (hb : b = lo64 x) : Value.agg #[.int .u64 a, .int .u64 b] = wideV x := by rw [ha, hb]; rfl

/-- What is answered of a whole number: itself, or that it is too great. -/
def okN (x : Int) : Int := if In64 x then x else 0
def erN (x : Int) : Int := if In64 x then 0 else 10
def ans (x : Int) : Value := .tuple #[.int .i64 (okN x), .int .i64 (erN x)]







theorem mul_bd (a b : Int) (ha : In64 a) (hb : In64 b) : -170141183460469231731687303715884105728 ≤ a * b ∧ a * b < 170141183460469231731687303715884105728 := by
  unfold In64 at *
  have h : (a * b).natAbs ≤ 9223372036854775808 * 9223372036854775808 := by
    rw [Int.natAbs_mul]; exact Nat.mul_le_mul (by omega) (by omega)
  omega






end Go.Proofs.Ytdbdeodcldogmaa
