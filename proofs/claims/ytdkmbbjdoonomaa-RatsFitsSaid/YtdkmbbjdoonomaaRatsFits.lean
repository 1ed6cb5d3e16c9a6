/-
  RatsFits: the walk, for every number and rate.
-/
import Derived.Test.YtdkmbbjdoonomaaRef02e
import Derived.Test.YtdkmbbjdoonomaaLives02
namespace Go.Proofs.Ytdkmbbjdoonomaa
open Go.RowKit
set_option linter.unusedSimpArgs false
set_option linter.unusedVariables false

theorem up_or (x den : Int) : upN x den = x / den ∨ upN x den = x / den + 1 := by unfold upN; split <;> simp
set_option maxHeartbeats 8000000 in
set_option maxRecDepth 100000 in
theorem ratsfits_neg (n a b : Int) (w : World) (h0 : n < 0)
    (cf : Hid (∀ w, Calls Try.prog 22 #[.int .i64 n, .agg #[.int .i64 a, .int .i64 b]] w fun e w' => e = .returned (.int .i64 0) ∧ Below w.heap.size w w')) :
    Calls Try.prog 7 #[.int .i64 n, .agg #[.int .i64 a, .int .i64 b]] w fun e w' => e = .returned (.bool true) ∧ Below w.heap.size w w' := by
  have l := Lib.hid lives02_any
  have KR := Lib.hid (Blk.new w #[.int .i64 a, .int .i64 b] 23)
  have B0 := Lib.hid ((Below.refl w.heap.size w).alloc (Nat.le_refl _) (.cells #[.int .i64 a, .int .i64 b] 23))
  go_enter Try.func7, Try.ntmps7
  go_wp2_with fail
  refine (cf.out _).mono ?_
  rintro e w1 ⟨rfl, b1⟩
  have KR_1 := Lib.hid (KR.out.below b1 KR.out.lt)
  have B_1 := Lib.hid (B0.out.trans (b1.mono B0.out.size))
  clear b1
  go_wp2_with fail
  refine (l.out _).mono ?_
  rintro e w2 ⟨rfl, b2⟩
  have KR_2 := Lib.hid (KR_1.out.below b2 KR_1.out.lt)
  have B_2 := Lib.hid (B_1.out.trans (b2.mono B_1.out.size))
  clear b2
  go_wp2_with fail
  go_ret
  exact ⟨rfl, B_2.out⟩
set_option maxHeartbeats 8000000 in
set_option maxRecDepth 100000 in
theorem ratsfits_not (n a b : Int) (w : World) (h0 : decide (n < 0) = false)
    (cf : Hid (∀ w, Calls Try.prog 22 #[.int .i64 n, .agg #[.int .i64 a, .int .i64 b]] w fun e w' => e = .returned (.int .i64 0) ∧ Below w.heap.size w w'))
    (cm : Hid (∀ w, Calls Try.prog 11 #[.agg #[.int .i64 a, .int .i64 b]] w fun e w' => e = .returned (.bool false) ∧ Below w.heap.size w w')) :
    Calls Try.prog 7 #[.int .i64 n, .agg #[.int .i64 a, .int .i64 b]] w fun e w' => e = .returned (.bool true) ∧ Below w.heap.size w w' := by
  have l := Lib.hid lives02_any
  have KR := Lib.hid (Blk.new w #[.int .i64 a, .int .i64 b] 23)
  have B0 := Lib.hid ((Below.refl w.heap.size w).alloc (Nat.le_refl _) (.cells #[.int .i64 a, .int .i64 b] 23))
  go_enter Try.func7, Try.ntmps7
  go_wp2_with fail
  refine (cf.out _).mono ?_
  rintro e w1 ⟨rfl, b1⟩
  have KR_1 := Lib.hid (KR.out.below b1 KR.out.lt)
  have B_1 := Lib.hid (B0.out.trans (b1.mono B0.out.size))
  clear b1
  have x0_KR_1 := KR_1.out.cell 0; have x1_KR_1 := KR_1.out.cell 1
  simp at x0_KR_1 x1_KR_1
  go_wp2_with fail
  refine (cm.out _).mono ?_
  rintro e w2 ⟨rfl, b2⟩
  have KR_2 := Lib.hid (KR_1.out.below b2 KR_1.out.lt)
  have B_2 := Lib.hid (B_1.out.trans (b2.mono B_1.out.size))
  clear b2
  go_wp2_with fail
  refine (l.out _).mono ?_
  rintro e w3 ⟨rfl, b3⟩
  have KR_3 := Lib.hid (KR_2.out.below b3 KR_2.out.lt)
  have B_3 := Lib.hid (B_2.out.trans (b3.mono B_2.out.size))
  clear b3
  go_wp2_with fail
  go_ret
  exact ⟨rfl, B_3.out⟩
set_option maxHeartbeats 8000000 in
set_option maxRecDepth 100000 in
theorem ratsfits_same_last (n a b y d : Int) (w : World) (h0 : decide (n < 0) = false) (hn : n ≤ 9223372036854775807) (y0 : 0 ≤ y) (y1 : y ≤ 1099511627776) (d0 : 0 ≤ d) (d1 : d ≤ n) (y2 : y = 1099511627776)
    (cf : Hid (∀ w, Calls Try.prog 22 #[.int .i64 n, .agg #[.int .i64 a, .int .i64 b]] w fun e w' => e = .returned (.int .i64 y) ∧ Below w.heap.size w w'))
    (cm : Hid (∀ w, Calls Try.prog 11 #[.agg #[.int .i64 a, .int .i64 b]] w fun e w' => e = .returned (.bool true) ∧ Below w.heap.size w w'))
    (cu : Hid (∀ w, Calls Try.prog 20 #[.int .i64 y, .agg #[.int .i64 a, .int .i64 b]] w fun e w' => e = .returned (.tuple #[.int .i64 d, .int .i64 0]) ∧ Below w.heap.size w w'))
    (cd : Hid (∀ w, Calls Try.prog 18 #[.int .i64 y, .agg #[.int .i64 a, .int .i64 b]] w fun e w' => e = .returned (.tuple #[.int .i64 d, .int .i64 0]) ∧ Below w.heap.size w w')) :
    Calls Try.prog 7 #[.int .i64 n, .agg #[.int .i64 a, .int .i64 b]] w fun e w' => e = .returned (.bool true) ∧ Below w.heap.size w w' := by
  have l := Lib.hid lives02_any
  have KR := Lib.hid (Blk.new w #[.int .i64 a, .int .i64 b] 23)
  have B0 := Lib.hid ((Below.refl w.heap.size w).alloc (Nat.le_refl _) (.cells #[.int .i64 a, .int .i64 b] 23))
  have e4 : decide (y < 1099511627776) = false := by simp; omega
  clear y2
  go_enter Try.func7, Try.ntmps7
  go_wp2_with fail
  refine (cf.out _).mono ?_
  rintro e w1 ⟨rfl, b1⟩
  have KR_1 := Lib.hid (KR.out.below b1 KR.out.lt)
  have B_1 := Lib.hid (B0.out.trans (b1.mono B0.out.size))
  clear b1
  have x0_KR_1 := KR_1.out.cell 0; have x1_KR_1 := KR_1.out.cell 1
  simp at x0_KR_1 x1_KR_1
  go_wp2_with fail
  refine (cm.out _).mono ?_
  rintro e w2 ⟨rfl, b2⟩
  have KR_2 := Lib.hid (KR_1.out.below b2 KR_1.out.lt)
  have B_2 := Lib.hid (B_1.out.trans (b2.mono B_1.out.size))
  clear b2
  have x0_KR_2 := KR_2.out.cell 0; have x1_KR_2 := KR_2.out.cell 1
  simp at x0_KR_2 x1_KR_2
  go_wp2_with fail
  refine (cu.out _).mono ?_
  rintro e w3 ⟨rfl, b3⟩
  have KR_3 := Lib.hid (KR_2.out.below b3 KR_2.out.lt)
  have B_3 := Lib.hid (B_2.out.trans (b3.mono B_2.out.size))
  clear b3
  have x0_KR_3 := KR_3.out.cell 0; have x1_KR_3 := KR_3.out.cell 1
  simp at x0_KR_3 x1_KR_3
  go_wp2_with fail
  refine (cd.out _).mono ?_
  rintro e w4 ⟨rfl, b4⟩
  have KR_4 := Lib.hid (KR_3.out.below b4 KR_3.out.lt)
  have B_4 := Lib.hid (B_3.out.trans (b4.mono B_3.out.size))
  clear b4
  go_wp2_with fail
  refine (l.out _).mono ?_
  rintro e w5 ⟨rfl, b5⟩
  have KR_5 := Lib.hid (KR_4.out.below b5 KR_4.out.lt)
  have B_5 := Lib.hid (B_4.out.trans (b5.mono B_4.out.size))
  clear b5
  go_wp2_with fail
  go_ret
  exact ⟨rfl, B_5.out⟩
set_option maxHeartbeats 8000000 in
set_option maxRecDepth 100000 in
theorem ratsfits_same_over (n a b y d : Int) (w : World) (h0 : decide (n < 0) = false) (hn : n ≤ 9223372036854775807) (y0 : 0 ≤ y) (y1 : y ≤ 1099511627776) (d0 : 0 ≤ d) (d1 : d ≤ n) (y2 : y < 1099511627776)
    (cf : Hid (∀ w, Calls Try.prog 22 #[.int .i64 n, .agg #[.int .i64 a, .int .i64 b]] w fun e w' => e = .returned (.int .i64 y) ∧ Below w.heap.size w w'))
    (cm : Hid (∀ w, Calls Try.prog 11 #[.agg #[.int .i64 a, .int .i64 b]] w fun e w' => e = .returned (.bool true) ∧ Below w.heap.size w w'))
    (cu : Hid (∀ w, Calls Try.prog 20 #[.int .i64 y, .agg #[.int .i64 a, .int .i64 b]] w fun e w' => e = .returned (.tuple #[.int .i64 d, .int .i64 0]) ∧ Below w.heap.size w w'))
    (cn : Hid (∀ w, Calls Try.prog 20 #[.int .i64 (y + 1), .agg #[.int .i64 a, .int .i64 b]] w fun e w' => e = .returned (.tuple #[.int .i64 0, .int .i64 10]) ∧ Below w.heap.size w w'))
    (cd : Hid (∀ w, Calls Try.prog 18 #[.int .i64 y, .agg #[.int .i64 a, .int .i64 b]] w fun e w' => e = .returned (.tuple #[.int .i64 d, .int .i64 0]) ∧ Below w.heap.size w w')) :
    Calls Try.prog 7 #[.int .i64 n, .agg #[.int .i64 a, .int .i64 b]] w fun e w' => e = .returned (.bool true) ∧ Below w.heap.size w w' := by
  have l := Lib.hid lives02_any
  have KR := Lib.hid (Blk.new w #[.int .i64 a, .int .i64 b] 23)
  have B0 := Lib.hid ((Below.refl w.heap.size w).alloc (Nat.le_refl _) (.cells #[.int .i64 a, .int .i64 b] 23))
  have e4 : decide (y < 1099511627776) = true := by simp; omega
  go_enter Try.func7, Try.ntmps7
  go_wp2_with fail
  refine (cf.out _).mono ?_
  rintro e w1 ⟨rfl, b1⟩
  have KR_1 := Lib.hid (KR.out.below b1 KR.out.lt)
  have B_1 := Lib.hid (B0.out.trans (b1.mono B0.out.size))
  clear b1
  have x0_KR_1 := KR_1.out.cell 0; have x1_KR_1 := KR_1.out.cell 1
  simp at x0_KR_1 x1_KR_1
  go_wp2_with fail
  refine (cm.out _).mono ?_
  rintro e w2 ⟨rfl, b2⟩
  have KR_2 := Lib.hid (KR_1.out.below b2 KR_1.out.lt)
  have B_2 := Lib.hid (B_1.out.trans (b2.mono B_1.out.size))
  clear b2
  have x0_KR_2 := KR_2.out.cell 0; have x1_KR_2 := KR_2.out.cell 1
  simp at x0_KR_2 x1_KR_2
  go_wp2_with fail
  refine (cu.out _).mono ?_
  rintro e w3 ⟨rfl, b3⟩
  have KR_3 := Lib.hid (KR_2.out.below b3 KR_2.out.lt)
  have B_3 := Lib.hid (B_2.out.trans (b3.mono B_2.out.size))
  clear b3
  have x0_KR_3 := KR_3.out.cell 0; have x1_KR_3 := KR_3.out.cell 1
  simp at x0_KR_3 x1_KR_3
  go_wp2_with fail
  refine (cn.out _).mono ?_
  rintro e w4 ⟨rfl, b4⟩
  have KR_4 := Lib.hid (KR_3.out.below b4 KR_3.out.lt)
  have B_4 := Lib.hid (B_3.out.trans (b4.mono B_3.out.size))
  clear b4
  have x0_KR_4 := KR_4.out.cell 0; have x1_KR_4 := KR_4.out.cell 1
  simp at x0_KR_4 x1_KR_4
  go_wp2_with fail
  refine (cd.out _).mono ?_
  rintro e w5 ⟨rfl, b5⟩
  have KR_5 := Lib.hid (KR_4.out.below b5 KR_4.out.lt)
  have B_5 := Lib.hid (B_4.out.trans (b5.mono B_4.out.size))
  clear b5
  go_wp2_with fail
  refine (l.out _).mono ?_
  rintro e w6 ⟨rfl, b6⟩
  have KR_6 := Lib.hid (KR_5.out.below b6 KR_5.out.lt)
  have B_6 := Lib.hid (B_5.out.trans (b6.mono B_5.out.size))
  clear b6
  go_wp2_with fail
  go_ret
  exact ⟨rfl, B_6.out⟩
set_option maxHeartbeats 8000000 in
set_option maxRecDepth 100000 in
theorem ratsfits_same_great (n a b y d x : Int) (w : World) (h0 : decide (n < 0) = false) (hn : n ≤ 9223372036854775807) (y0 : 0 ≤ y) (y1 : y ≤ 1099511627776) (d0 : 0 ≤ d) (d1 : d ≤ n) (y2 : y < 1099511627776) (hx : n < x)
    (cf : Hid (∀ w, Calls Try.prog 22 #[.int .i64 n, .agg #[.int .i64 a, .int .i64 b]] w fun e w' => e = .returned (.int .i64 y) ∧ Below w.heap.size w w'))
    (cm : Hid (∀ w, Calls Try.prog 11 #[.agg #[.int .i64 a, .int .i64 b]] w fun e w' => e = .returned (.bool true) ∧ Below w.heap.size w w'))
    (cu : Hid (∀ w, Calls Try.prog 20 #[.int .i64 y, .agg #[.int .i64 a, .int .i64 b]] w fun e w' => e = .returned (.tuple #[.int .i64 d, .int .i64 0]) ∧ Below w.heap.size w w'))
    (cn : Hid (∀ w, Calls Try.prog 20 #[.int .i64 (y + 1), .agg #[.int .i64 a, .int .i64 b]] w fun e w' => e = .returned (.tuple #[.int .i64 x, .int .i64 0]) ∧ Below w.heap.size w w'))
    (cd : Hid (∀ w, Calls Try.prog 18 #[.int .i64 y, .agg #[.int .i64 a, .int .i64 b]] w fun e w' => e = .returned (.tuple #[.int .i64 d, .int .i64 0]) ∧ Below w.heap.size w w')) :
    Calls Try.prog 7 #[.int .i64 n, .agg #[.int .i64 a, .int .i64 b]] w fun e w' => e = .returned (.bool true) ∧ Below w.heap.size w w' := by
  have l := Lib.hid lives02_any
  have KR := Lib.hid (Blk.new w #[.int .i64 a, .int .i64 b] 23)
  have B0 := Lib.hid ((Below.refl w.heap.size w).alloc (Nat.le_refl _) (.cells #[.int .i64 a, .int .i64 b] 23))
  have e3 : decide (x ≤ n) = false := by simp; omega
  have e4 : decide (y < 1099511627776) = true := by simp; omega
  go_enter Try.func7, Try.ntmps7
  go_wp2_with fail
  refine (cf.out _).mono ?_
  rintro e w1 ⟨rfl, b1⟩
  have KR_1 := Lib.hid (KR.out.below b1 KR.out.lt)
  have B_1 := Lib.hid (B0.out.trans (b1.mono B0.out.size))
  clear b1
  have x0_KR_1 := KR_1.out.cell 0; have x1_KR_1 := KR_1.out.cell 1
  simp at x0_KR_1 x1_KR_1
  go_wp2_with fail
  refine (cm.out _).mono ?_
  rintro e w2 ⟨rfl, b2⟩
  have KR_2 := Lib.hid (KR_1.out.below b2 KR_1.out.lt)
  have B_2 := Lib.hid (B_1.out.trans (b2.mono B_1.out.size))
  clear b2
  have x0_KR_2 := KR_2.out.cell 0; have x1_KR_2 := KR_2.out.cell 1
  simp at x0_KR_2 x1_KR_2
  go_wp2_with fail
  refine (cu.out _).mono ?_
  rintro e w3 ⟨rfl, b3⟩
  have KR_3 := Lib.hid (KR_2.out.below b3 KR_2.out.lt)
  have B_3 := Lib.hid (B_2.out.trans (b3.mono B_2.out.size))
  clear b3
  have x0_KR_3 := KR_3.out.cell 0; have x1_KR_3 := KR_3.out.cell 1
  simp at x0_KR_3 x1_KR_3
  go_wp2_with fail
  refine (cn.out _).mono ?_
  rintro e w4 ⟨rfl, b4⟩
  have KR_4 := Lib.hid (KR_3.out.below b4 KR_3.out.lt)
  have B_4 := Lib.hid (B_3.out.trans (b4.mono B_3.out.size))
  clear b4
  have x0_KR_4 := KR_4.out.cell 0; have x1_KR_4 := KR_4.out.cell 1
  simp at x0_KR_4 x1_KR_4
  go_wp2_with fail
  refine (cd.out _).mono ?_
  rintro e w5 ⟨rfl, b5⟩
  have KR_5 := Lib.hid (KR_4.out.below b5 KR_4.out.lt)
  have B_5 := Lib.hid (B_4.out.trans (b5.mono B_4.out.size))
  clear b5
  go_wp2_with fail
  refine (l.out _).mono ?_
  rintro e w6 ⟨rfl, b6⟩
  have KR_6 := Lib.hid (KR_5.out.below b6 KR_5.out.lt)
  have B_6 := Lib.hid (B_5.out.trans (b6.mono B_5.out.size))
  clear b6
  go_wp2_with fail
  go_ret
  exact ⟨rfl, B_6.out⟩
set_option maxHeartbeats 8000000 in
set_option maxRecDepth 100000 in
theorem ratsfits_more_last (n a b y d : Int) (w : World) (h0 : decide (n < 0) = false) (hn : n ≤ 9223372036854775807) (y0 : 0 ≤ y) (y1 : y ≤ 1099511627776) (d0 : 0 ≤ d) (d1 : d + 1 ≤ n) (y2 : y = 1099511627776)
    (cf : Hid (∀ w, Calls Try.prog 22 #[.int .i64 n, .agg #[.int .i64 a, .int .i64 b]] w fun e w' => e = .returned (.int .i64 y) ∧ Below w.heap.size w w'))
    (cm : Hid (∀ w, Calls Try.prog 11 #[.agg #[.int .i64 a, .int .i64 b]] w fun e w' => e = .returned (.bool true) ∧ Below w.heap.size w w'))
    (cu : Hid (∀ w, Calls Try.prog 20 #[.int .i64 y, .agg #[.int .i64 a, .int .i64 b]] w fun e w' => e = .returned (.tuple #[.int .i64 (d + 1), .int .i64 0]) ∧ Below w.heap.size w w'))
    (cd : Hid (∀ w, Calls Try.prog 18 #[.int .i64 y, .agg #[.int .i64 a, .int .i64 b]] w fun e w' => e = .returned (.tuple #[.int .i64 d, .int .i64 0]) ∧ Below w.heap.size w w')) :
    Calls Try.prog 7 #[.int .i64 n, .agg #[.int .i64 a, .int .i64 b]] w fun e w' => e = .returned (.bool true) ∧ Below w.heap.size w w' := by
  have l := Lib.hid lives02_any
  have KR := Lib.hid (Blk.new w #[.int .i64 a, .int .i64 b] 23)
  have B0 := Lib.hid ((Below.refl w.heap.size w).alloc (Nat.le_refl _) (.cells #[.int .i64 a, .int .i64 b] 23))
  have e1 : (d + 1 == d) = false := by simp; omega
  have e4 : decide (y < 1099511627776) = false := by simp; omega
  clear y2
  go_enter Try.func7, Try.ntmps7
  go_wp2_with fail
  refine (cf.out _).mono ?_
  rintro e w1 ⟨rfl, b1⟩
  have KR_1 := Lib.hid (KR.out.below b1 KR.out.lt)
  have B_1 := Lib.hid (B0.out.trans (b1.mono B0.out.size))
  clear b1
  have x0_KR_1 := KR_1.out.cell 0; have x1_KR_1 := KR_1.out.cell 1
  simp at x0_KR_1 x1_KR_1
  go_wp2_with fail
  refine (cm.out _).mono ?_
  rintro e w2 ⟨rfl, b2⟩
  have KR_2 := Lib.hid (KR_1.out.below b2 KR_1.out.lt)
  have B_2 := Lib.hid (B_1.out.trans (b2.mono B_1.out.size))
  clear b2
  have x0_KR_2 := KR_2.out.cell 0; have x1_KR_2 := KR_2.out.cell 1
  simp at x0_KR_2 x1_KR_2
  go_wp2_with fail
  refine (cu.out _).mono ?_
  rintro e w3 ⟨rfl, b3⟩
  have KR_3 := Lib.hid (KR_2.out.below b3 KR_2.out.lt)
  have B_3 := Lib.hid (B_2.out.trans (b3.mono B_2.out.size))
  clear b3
  have x0_KR_3 := KR_3.out.cell 0; have x1_KR_3 := KR_3.out.cell 1
  simp at x0_KR_3 x1_KR_3
  go_wp2_with fail
  refine (cd.out _).mono ?_
  rintro e w4 ⟨rfl, b4⟩
  have KR_4 := Lib.hid (KR_3.out.below b4 KR_3.out.lt)
  have B_4 := Lib.hid (B_3.out.trans (b4.mono B_3.out.size))
  clear b4
  go_wp2_with fail
  refine (l.out _).mono ?_
  rintro e w5 ⟨rfl, b5⟩
  have KR_5 := Lib.hid (KR_4.out.below b5 KR_4.out.lt)
  have B_5 := Lib.hid (B_4.out.trans (b5.mono B_4.out.size))
  clear b5
  go_wp2_with fail
  go_ret
  exact ⟨rfl, B_5.out⟩
set_option maxHeartbeats 8000000 in
set_option maxRecDepth 100000 in
theorem ratsfits_more_over (n a b y d : Int) (w : World) (h0 : decide (n < 0) = false) (hn : n ≤ 9223372036854775807) (y0 : 0 ≤ y) (y1 : y ≤ 1099511627776) (d0 : 0 ≤ d) (d1 : d + 1 ≤ n) (y2 : y < 1099511627776)
    (cf : Hid (∀ w, Calls Try.prog 22 #[.int .i64 n, .agg #[.int .i64 a, .int .i64 b]] w fun e w' => e = .returned (.int .i64 y) ∧ Below w.heap.size w w'))
    (cm : Hid (∀ w, Calls Try.prog 11 #[.agg #[.int .i64 a, .int .i64 b]] w fun e w' => e = .returned (.bool true) ∧ Below w.heap.size w w'))
    (cu : Hid (∀ w, Calls Try.prog 20 #[.int .i64 y, .agg #[.int .i64 a, .int .i64 b]] w fun e w' => e = .returned (.tuple #[.int .i64 (d + 1), .int .i64 0]) ∧ Below w.heap.size w w'))
    (cn : Hid (∀ w, Calls Try.prog 20 #[.int .i64 (y + 1), .agg #[.int .i64 a, .int .i64 b]] w fun e w' => e = .returned (.tuple #[.int .i64 0, .int .i64 10]) ∧ Below w.heap.size w w'))
    (cd : Hid (∀ w, Calls Try.prog 18 #[.int .i64 y, .agg #[.int .i64 a, .int .i64 b]] w fun e w' => e = .returned (.tuple #[.int .i64 d, .int .i64 0]) ∧ Below w.heap.size w w')) :
    Calls Try.prog 7 #[.int .i64 n, .agg #[.int .i64 a, .int .i64 b]] w fun e w' => e = .returned (.bool true) ∧ Below w.heap.size w w' := by
  have l := Lib.hid lives02_any
  have KR := Lib.hid (Blk.new w #[.int .i64 a, .int .i64 b] 23)
  have B0 := Lib.hid ((Below.refl w.heap.size w).alloc (Nat.le_refl _) (.cells #[.int .i64 a, .int .i64 b] 23))
  have e1 : (d + 1 == d) = false := by simp; omega
  have e4 : decide (y < 1099511627776) = true := by simp; omega
  go_enter Try.func7, Try.ntmps7
  go_wp2_with fail
  refine (cf.out _).mono ?_
  rintro e w1 ⟨rfl, b1⟩
  have KR_1 := Lib.hid (KR.out.below b1 KR.out.lt)
  have B_1 := Lib.hid (B0.out.trans (b1.mono B0.out.size))
  clear b1
  have x0_KR_1 := KR_1.out.cell 0; have x1_KR_1 := KR_1.out.cell 1
  simp at x0_KR_1 x1_KR_1
  go_wp2_with fail
  refine (cm.out _).mono ?_
  rintro e w2 ⟨rfl, b2⟩
  have KR_2 := Lib.hid (KR_1.out.below b2 KR_1.out.lt)
  have B_2 := Lib.hid (B_1.out.trans (b2.mono B_1.out.size))
  clear b2
  have x0_KR_2 := KR_2.out.cell 0; have x1_KR_2 := KR_2.out.cell 1
  simp at x0_KR_2 x1_KR_2
  go_wp2_with fail
  refine (cu.out _).mono ?_
  rintro e w3 ⟨rfl, b3⟩
  have KR_3 := Lib.hid (KR_2.out.below b3 KR_2.out.lt)
  have B_3 := Lib.hid (B_2.out.trans (b3.mono B_2.out.size))
  clear b3
  have x0_KR_3 := KR_3.out.cell 0; have x1_KR_3 := KR_3.out.cell 1
  simp at x0_KR_3 x1_KR_3
  go_wp2_with fail
  refine (cn.out _).mono ?_
  rintro e w4 ⟨rfl, b4⟩
  have KR_4 := Lib.hid (KR_3.out.below b4 KR_3.out.lt)
  have B_4 := Lib.hid (B_3.out.trans (b4.mono B_3.out.size))
  clear b4
  have x0_KR_4 := KR_4.out.cell 0; have x1_KR_4 := KR_4.out.cell 1
  simp at x0_KR_4 x1_KR_4
  go_wp2_with fail
  refine (cd.out _).mono ?_
  rintro e w5 ⟨rfl, b5⟩
  have KR_5 := Lib.hid (KR_4.out.below b5 KR_4.out.lt)
  have B_5 := Lib.hid (B_4.out.trans (b5.mono B_4.out.size))
  clear b5
  go_wp2_with fail
  refine (l.out _).mono ?_
  rintro e w6 ⟨rfl, b6⟩
  have KR_6 := Lib.hid (KR_5.out.below b6 KR_5.out.lt)
  have B_6 := Lib.hid (B_5.out.trans (b6.mono B_5.out.size))
  clear b6
  go_wp2_with fail
  go_ret
  exact ⟨rfl, B_6.out⟩
set_option maxHeartbeats 8000000 in
set_option maxRecDepth 100000 in
theorem ratsfits_more_great (n a b y d x : Int) (w : World) (h0 : decide (n < 0) = false) (hn : n ≤ 9223372036854775807) (y0 : 0 ≤ y) (y1 : y ≤ 1099511627776) (d0 : 0 ≤ d) (d1 : d + 1 ≤ n) (y2 : y < 1099511627776) (hx : n < x)
    (cf : Hid (∀ w, Calls Try.prog 22 #[.int .i64 n, .agg #[.int .i64 a, .int .i64 b]] w fun e w' => e = .returned (.int .i64 y) ∧ Below w.heap.size w w'))
    (cm : Hid (∀ w, Calls Try.prog 11 #[.agg #[.int .i64 a, .int .i64 b]] w fun e w' => e = .returned (.bool true) ∧ Below w.heap.size w w'))
    (cu : Hid (∀ w, Calls Try.prog 20 #[.int .i64 y, .agg #[.int .i64 a, .int .i64 b]] w fun e w' => e = .returned (.tuple #[.int .i64 (d + 1), .int .i64 0]) ∧ Below w.heap.size w w'))
    (cn : Hid (∀ w, Calls Try.prog 20 #[.int .i64 (y + 1), .agg #[.int .i64 a, .int .i64 b]] w fun e w' => e = .returned (.tuple #[.int .i64 x, .int .i64 0]) ∧ Below w.heap.size w w'))
    (cd : Hid (∀ w, Calls Try.prog 18 #[.int .i64 y, .agg #[.int .i64 a, .int .i64 b]] w fun e w' => e = .returned (.tuple #[.int .i64 d, .int .i64 0]) ∧ Below w.heap.size w w')) :
    Calls Try.prog 7 #[.int .i64 n, .agg #[.int .i64 a, .int .i64 b]] w fun e w' => e = .returned (.bool true) ∧ Below w.heap.size w w' := by
  have l := Lib.hid lives02_any
  have KR := Lib.hid (Blk.new w #[.int .i64 a, .int .i64 b] 23)
  have B0 := Lib.hid ((Below.refl w.heap.size w).alloc (Nat.le_refl _) (.cells #[.int .i64 a, .int .i64 b] 23))
  have e1 : (d + 1 == d) = false := by simp; omega
  have e3 : decide (x ≤ n) = false := by simp; omega
  have e4 : decide (y < 1099511627776) = true := by simp; omega
  go_enter Try.func7, Try.ntmps7
  go_wp2_with fail
  refine (cf.out _).mono ?_
  rintro e w1 ⟨rfl, b1⟩
  have KR_1 := Lib.hid (KR.out.below b1 KR.out.lt)
  have B_1 := Lib.hid (B0.out.trans (b1.mono B0.out.size))
  clear b1
  have x0_KR_1 := KR_1.out.cell 0; have x1_KR_1 := KR_1.out.cell 1
  simp at x0_KR_1 x1_KR_1
  go_wp2_with fail
  refine (cm.out _).mono ?_
  rintro e w2 ⟨rfl, b2⟩
  have KR_2 := Lib.hid (KR_1.out.below b2 KR_1.out.lt)
  have B_2 := Lib.hid (B_1.out.trans (b2.mono B_1.out.size))
  clear b2
  have x0_KR_2 := KR_2.out.cell 0; have x1_KR_2 := KR_2.out.cell 1
  simp at x0_KR_2 x1_KR_2
  go_wp2_with fail
  refine (cu.out _).mono ?_
  rintro e w3 ⟨rfl, b3⟩
  have KR_3 := Lib.hid (KR_2.out.below b3 KR_2.out.lt)
  have B_3 := Lib.hid (B_2.out.trans (b3.mono B_2.out.size))
  clear b3
  have x0_KR_3 := KR_3.out.cell 0; have x1_KR_3 := KR_3.out.cell 1
  simp at x0_KR_3 x1_KR_3
  go_wp2_with fail
  refine (cn.out _).mono ?_
  rintro e w4 ⟨rfl, b4⟩
  have KR_4 := Lib.hid (KR_3.out.below b4 KR_3.out.lt)
  have B_4 := Lib.hid (B_3.out.trans (b4.mono B_3.out.size))
  clear b4
  have x0_KR_4 := KR_4.out.cell 0; have x1_KR_4 := KR_4.out.cell 1
  simp at x0_KR_4 x1_KR_4
  go_wp2_with fail
  refine (cd.out _).mono ?_
  rintro e w5 ⟨rfl, b5⟩
  have KR_5 := Lib.hid (KR_4.out.below b5 KR_4.out.lt)
  have B_5 := Lib.hid (B_4.out.trans (b5.mono B_4.out.size))
  clear b5
  go_wp2_with fail
  refine (l.out _).mono ?_
  rintro e w6 ⟨rfl, b6⟩
  have KR_6 := Lib.hid (KR_5.out.below b6 KR_5.out.lt)
  have B_6 := Lib.hid (B_5.out.trans (b6.mono B_5.out.size))
  clear b6
  go_wp2_with fail
  go_ret
  exact ⟨rfl, B_6.out⟩
theorem ratsfits_any (n a b : Int) (w : World) (h : In64 n) (h1 : In64 a) (h2 : In64 b) :
    Calls Try.prog 7 #[.int .i64 n, .agg #[.int .i64 a, .int .i64 b]] w fun e w' => e = .returned (.bool true) ∧ Below w.heap.size w w' := by
  have cf := Lib.hid (fun w => fits_any n a b w h h1 h2)
  have cm := Lib.hid (fun w => may_any a b w h1 h2)
  by_cases h0 : n < 0
  · rw [show fitN n a b = 0 by unfold fitN; rw [if_neg (by omega)]] at cf
    exact ratsfits_neg n a b w h0 cf
  have h0' : decide (n < 0) = false := by simpa using h0
  cases m : mayB a b
  · rw [show fitN n a b = 0 by unfold fitN; rw [if_neg (by simp [m])]] at cf
    rw [m] at cm
    exact ratsfits_not n a b w h0' cf cm
  rw [m] at cm
  obtain ⟨p1, p2, p3, p4, _⟩ := may_bd m
  have hq : fitN n a b = min (n * b / a) 1099511627776 := by unfold fitN; rw [if_pos ⟨m, by omega⟩]
  have hq0 : 0 ≤ n * b / a := Int.ediv_nonneg (Int.mul_nonneg (by omega) (by omega)) (by omega)
  have y0 : 0 ≤ fitN n a b := by omega
  have y1 : fitN n a b ≤ 1099511627776 := by omega
  have y3 : fitN n a b ≤ n * b / a := by omega
  have y4 : fitN n a b < 1099511627776 → n * b / a < fitN n a b + 1 := by omega
  have hn2 : n ≤ 9223372036854775807 := h.2
  generalize fitN n a b = y at *
  have cu := Lib.hid (fun w => rup_rat y a b w ⟨by omega, by omega⟩ h1 h2)
  have cn := Lib.hid (fun w => rup_rat (y + 1) a b w ⟨by omega, by omega⟩ h1 h2)
  have cd := Lib.hid (fun w => rdown_rat y a b w ⟨by omega, by omega⟩ h1 h2)
  have hu := (up_le y a n b y0 (by omega) p1 p2 hn2).2 y3
  have d0 : 0 ≤ y * a / b := Int.ediv_nonneg (Int.mul_nonneg y0 (by omega)) (by omega)
  have ht := upV2_test (y + 1) n a b m (by omega) (by omega) hn2
  rcases up_or (y * a) b with e | e
  · rw [e] at hu
    rw [show upV2 y a b = .tuple #[.int .i64 (y * a / b), .int .i64 0] by rw [upV2, m, if_pos rfl, upV, if_neg (by omega), e, ans_of _ ⟨by omega, by omega⟩]] at cu
    rw [show downV2 y a b = .tuple #[.int .i64 (y * a / b), .int .i64 0] by rw [downV2, m, if_pos rfl, downV, if_neg (by omega), ans_of _ ⟨by omega, by omega⟩]] at cd
    by_cases hl : y < 1099511627776
    · rcases ht with ⟨x, _, _, hc⟩ | ⟨x, hx, hxn, _⟩ | ⟨hx, _⟩
      · have := y4 hl; omega
      · rw [hx] at cn
        exact ratsfits_same_great n a b y _ x w h0' hn2 y0 y1 d0 hu hl (by simpa using hxn) cf cm cu cn cd
      · rw [hx] at cn
        exact ratsfits_same_over n a b y _ w h0' hn2 y0 y1 d0 hu hl cf cm cu cn cd
    · exact ratsfits_same_last n a b y _ w h0' hn2 y0 y1 d0 hu (by omega) cf cm cu cd
  · rw [e] at hu
    rw [show upV2 y a b = .tuple #[.int .i64 (y * a / b + 1), .int .i64 0] by rw [upV2, m, if_pos rfl, upV, if_neg (by omega), e, ans_of _ ⟨by omega, by omega⟩]] at cu
    rw [show downV2 y a b = .tuple #[.int .i64 (y * a / b), .int .i64 0] by rw [downV2, m, if_pos rfl, downV, if_neg (by omega), ans_of _ ⟨by omega, by omega⟩]] at cd
    by_cases hl : y < 1099511627776
    · rcases ht with ⟨x, _, _, hc⟩ | ⟨x, hx, hxn, _⟩ | ⟨hx, _⟩
      · have := y4 hl; omega
      · rw [hx] at cn
        exact ratsfits_more_great n a b y _ x w h0' hn2 y0 y1 d0 hu hl (by simpa using hxn) cf cm cu cn cd
      · rw [hx] at cn
        exact ratsfits_more_over n a b y _ w h0' hn2 y0 y1 d0 hu hl cf cm cu cn cd
    · exact ratsfits_more_last n a b y _ w h0' hn2 y0 y1 d0 hu (by omega) cf cm cu cd
theorem ratsfits_walk (n a b : Int) (w : World) (h0 : (Lit.int .i64 n).wf = true) (h1 : (Lit.int .i64 a).wf = true) (h2 : (Lit.int .i64 b).wf = true) :
    Calls Try.prog 7 #[.int .i64 n, .agg #[.int .i64 a, .int .i64 b]] w fun e w' => e = .returned (.bool true) ∧ Below w.heap.size w w' :=
  ratsfits_any n a b w (In64.of_wf h0) (In64.of_wf h1) (In64.of_wf h2)

end Go.Proofs.Ytdkmbbjdoonomaa
