/-
  Layer 1's statements ask the chapter's examples ('lives'): they are answered as they should be.
-/
import Derived.Test.YtonbinbjddameaaExacts
namespace Go.Proofs.Ytonbinbjddameaa
open Go.RowKit
set_option linter.unusedSimpArgs false
set_option linter.unusedVariables false

theorem ans_of (x : Int) (h : In64 x) : ans x = .tuple #[.int .i64 x, .int .i64 0] := by simp [ans, okN, erN, h]
theorem ans_not (x : Int) (h : ¬ In64 x) : ans x = .tuple #[.int .i64 0, .int .i64 10] := by simp [ans, okN, erN, h]

set_option maxHeartbeats 4000000 in
set_option maxRecDepth 100000 in
theorem lives01_any (w : World) :
    Calls Try.prog 15 #[] w fun e w' => e = .returned (.bool true) ∧ Below w.heap.size w w' := by
  have c1 := Lib.hid (fun w => add_any 1 2 w (by decide) (by decide))
  have c2 := Lib.hid (fun w => add_any 9223372036854775807 1 w (by decide) (by decide))
  have c3 := Lib.hid (fun w => sub_any (-9223372036854775808) 1 w (by decide) (by decide))
  have c4 := Lib.hid (fun w => mul_any (-4294967296) 2147483648 w (by decide) (by decide))
  have c5 := Lib.hid (fun w => mul_any 4294967296 2147483648 w (by decide) (by decide))
  have c7 := Lib.hid (fun w => down_any 7 3 2 w (by decide) (by decide) (by decide))
  have c8 := Lib.hid (fun w => up_any 7 3 2 w (by decide) (by decide) (by decide))
  have c9 := Lib.hid (fun w => up_any 9223372036854775807 2 1 w (by decide) (by decide) (by decide))
  have c10 := Lib.hid (fun w => down_any 1 1 0 w (by decide) (by decide) (by decide))
  rw [show ans (1 + 2) = .tuple #[.int .i64 3, .int .i64 0] from ans_of 3 (by decide)] at c1
  rw [show ans (9223372036854775807 + 1) = .tuple #[.int .i64 0, .int .i64 10] from ans_not _ (by decide)] at c2
  rw [show ans (-9223372036854775808 - 1) = .tuple #[.int .i64 0, .int .i64 10] from ans_not _ (by decide)] at c3
  rw [show ans (-4294967296 * 2147483648) = .tuple #[.int .i64 (-9223372036854775808), .int .i64 0] from (congrArg ans (show (-4294967296 : Int) * 2147483648 = -9223372036854775808 by decide)).trans (ans_of (-9223372036854775808) (by decide))] at c4
  rw [show ans (4294967296 * 2147483648) = .tuple #[.int .i64 0, .int .i64 10] from ans_not _ (by decide)] at c5
  rw [show downV 7 3 2 = .tuple #[.int .i64 10, .int .i64 0] from ans_of 10 (by decide)] at c7
  rw [show upV 7 3 2 = .tuple #[.int .i64 11, .int .i64 0] from ans_of 11 (by decide)] at c8
  rw [show upV 9223372036854775807 2 1 = .tuple #[.int .i64 0, .int .i64 10] from ans_not (upN (9223372036854775807 * 2) 1) (by decide)] at c9
  rw [show downV 1 1 0 = .tuple #[.int .i64 0, .int .i64 1] from rfl] at c10
  go_enter Try.func15, Try.ntmps15
  go_wp2_with fail
  refine (c1.out _).mono ?_
  rintro e w1 ⟨rfl, b1⟩
  go_wp2_with fail
  refine (c2.out _).mono ?_
  rintro e w2 ⟨rfl, b2⟩
  go_wp2_with fail
  refine (c3.out _).mono ?_
  rintro e w3 ⟨rfl, b3⟩
  go_wp2_with fail
  refine (c4.out _).mono ?_
  rintro e w4 ⟨rfl, b4⟩
  go_wp2_with fail
  refine (c5.out _).mono ?_
  rintro e w5 ⟨rfl, b5⟩
  go_wp2_with fail
  have c6 := sum_any w5.heap.size 0 3 [9223372036854775807, 9, -9] (w5.alloc (.cells #[.int .i64 9223372036854775807, .int .i64 9, .int .i64 (-9)] 2)) (by decide) (by decide) (by simp)
    (by intro i h; match i, h with | 0, _ => simp | 1, _ => simp | 2, _ => simp)
  rw [show ans [9223372036854775807, 9, -9].sum = .tuple #[.int .i64 9223372036854775807, .int .i64 0] from ans_of 9223372036854775807 (by decide)] at c6
  refine c6.mono ?_
  rintro e w6 ⟨rfl, b6⟩
  go_wp2_with fail
  refine (c7.out _).mono ?_
  rintro e w7 ⟨rfl, b7⟩
  go_wp2_with fail
  refine (c8.out _).mono ?_
  rintro e w8 ⟨rfl, b8⟩
  go_wp2_with fail
  refine (c9.out _).mono ?_
  rintro e w9 ⟨rfl, b9⟩
  go_wp2_with fail
  refine (c10.out _).mono ?_
  rintro e w10 ⟨rfl, b10⟩
  go_wp2_with fail
  go_ret
  have d5 := andB (andB (andB (andB b1 b2) b3) b4) b5
  exact ⟨rfl, andB (andB (andB (andB (andB (d5.alloc d5.size _) b6) b7) b8) b9) b10⟩

end Go.Proofs.Ytonbinbjddameaa
