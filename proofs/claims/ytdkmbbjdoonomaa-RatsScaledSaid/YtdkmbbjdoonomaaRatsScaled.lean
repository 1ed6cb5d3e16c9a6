/-
  RatsScaled: the walk, for every three numbers.
-/
import Derived.Test.YtdkmbbjdoonomaaRef02e
import Derived.Test.YtdkmbbjdoonomaaLives02
import Derived.OpenShut
namespace Go.Proofs.Ytdkmbbjdoonomaa
open Go.RowKit
set_option linter.unusedSimpArgs false
set_option linter.unusedVariables false

set_option maxHeartbeats 8000000 in
set_option maxRecDepth 100000 in
theorem ratsscaled_yes (num den x y : Int) (w : World) (n0 : 0 ≤ num) (n1 : num ≤ 65535) (d0 : 0 ≤ den) (d1 : den ≤ 65535) (hxy : (x * (den + 1) == y * (num + 1)) = true) (x0 : 0 ≤ x * (den + 1)) (x1 : x * (den + 1) ≤ 4294967296) (y0 : 0 ≤ y * (num + 1)) (y1 : y * (num + 1) ≤ 4294967296) (hx : (x == num + 1) = true)
    (o1 : Hid (∀ w, Calls Try.prog 9 #[.int .i64 (num + 1), .int .i64 (den + 1)] w fun e w' => e = .returned (.tuple #[.agg #[.int .i64 x, .int .i64 y], .int .i64 0]) ∧ Below w.heap.size w w'))
    (o2 : Hid (∀ w, Calls Try.prog 9 #[.int .i64 (num + 1), .int .i64 (den + 1)] w fun e w' => e = .returned (.tuple #[.agg #[.int .i64 x, .int .i64 y], .int .i64 0]) ∧ Below w.heap.size w w'))
    (ma : Hid (∀ w, Calls Try.prog 11 #[.agg #[.int .i64 x, .int .i64 y]] w fun e w' => e = .returned (.bool true) ∧ Below w.heap.size w w'))
    (mk : Hid (∀ w, Calls Try.prog 11 #[.agg #[.int .i64 (num + 1), .int .i64 (den + 1)]] w fun e w' => e = .returned (.bool true) ∧ Below w.heap.size w w')) :
    Calls Try.prog 8 #[.int .u16 num, .int .u16 den, .int .u32 0] w fun e w' => e = .returned (.bool true) ∧ Below w.heap.size w w' := by
  have l := Lib.hid lives02_any
  have B0 := Lib.hid (Below.refl w.heap.size w)
  go_enter Try.func8, Try.ntmps8
  go_wp2_with fail
  refine (o1.out _).mono ?_
  rintro e w1 ⟨rfl, b1⟩
  have B_1 := Lib.hid (B0.out.trans (b1.mono B0.out.size))
  clear b1
  have KX_a1 := Lib.hid (Blk.new w1 #[.int .i64 x, .int .i64 y] 23)
  have B_a1 := Lib.hid (B_1.out.alloc B_1.out.size (.cells #[.int .i64 x, .int .i64 y] 23))
  go_wp2_with fail
  refine (o2.out _).mono ?_
  rintro e w2 ⟨rfl, b2⟩
  have KX_2 := Lib.hid (KX_a1.out.below b2 KX_a1.out.lt)
  have B_2 := Lib.hid (B_a1.out.trans (b2.mono B_a1.out.size))
  clear b2
  have KX_a2 := Lib.hid (KX_2.out.alloc (.cells #[.int .i64 x, .int .i64 y] 23))
  have KY_a2 := Lib.hid (Blk.new w2 #[.int .i64 x, .int .i64 y] 23)
  have B_a2 := Lib.hid (B_2.out.alloc B_2.out.size (.cells #[.int .i64 x, .int .i64 y] 23))
  have x0_KX_2 := KX_a2.out.cell 0; have x1_KX_2 := KX_a2.out.cell 1
  simp at x0_KX_2 x1_KX_2
  go_wp2_with fail
  refine (ma.out _).mono ?_
  rintro e w3 ⟨rfl, b3⟩
  have KX_3 := Lib.hid (KX_a2.out.below b3 KX_a2.out.lt)
  have KY_3 := Lib.hid (KY_a2.out.below b3 KY_a2.out.lt)
  have B_3 := Lib.hid (B_a2.out.trans (b3.mono B_a2.out.size))
  clear b3
  have x0_KX_3 := KX_3.out.cell 0; have x1_KX_3 := KX_3.out.cell 1
  simp at x0_KX_3 x1_KX_3
  go_wp2_with fail
  refine (mk.out _).mono ?_
  rintro e w4 ⟨rfl, b4⟩
  have KX_4 := Lib.hid (KX_3.out.below b4 KX_3.out.lt)
  have KY_4 := Lib.hid (KY_3.out.below b4 KY_3.out.lt)
  have B_4 := Lib.hid (B_3.out.trans (b4.mono B_3.out.size))
  clear b4
  have x0_KX_4 := KX_4.out.cell 0; have x1_KX_4 := KX_4.out.cell 1
  simp at x0_KX_4 x1_KX_4
  go_wp2_with fail
  refine (l.out _).mono ?_
  rintro e w5 ⟨rfl, b5⟩
  have KX_5 := Lib.hid (KX_4.out.below b5 KX_4.out.lt)
  have KY_5 := Lib.hid (KY_4.out.below b5 KY_4.out.lt)
  have B_5 := Lib.hid (B_4.out.trans (b5.mono B_4.out.size))
  clear b5
  go_wp2_with fail
  go_ret
  exact ⟨rfl, B_5.out⟩
set_option maxHeartbeats 8000000 in
set_option maxRecDepth 100000 in
theorem ratsscaled_div (num den x y : Int) (w : World) (n0 : 0 ≤ num) (n1 : num ≤ 65535) (d0 : 0 ≤ den) (d1 : den ≤ 65535) (hxy : (x * (den + 1) == y * (num + 1)) = true) (x0 : 0 ≤ x * (den + 1)) (x1 : x * (den + 1) ≤ 4294967296) (y0 : 0 ≤ y * (num + 1)) (y1 : y * (num + 1) ≤ 4294967296) (hx : (x == num + 1) = false)
    (o1 : Hid (∀ w, Calls Try.prog 9 #[.int .i64 (num + 1), .int .i64 (den + 1)] w fun e w' => e = .returned (.tuple #[.agg #[.int .i64 x, .int .i64 y], .int .i64 0]) ∧ Below w.heap.size w w'))
    (o2 : Hid (∀ w, Calls Try.prog 9 #[.int .i64 (num + 1), .int .i64 (den + 1)] w fun e w' => e = .returned (.tuple #[.agg #[.int .i64 x, .int .i64 y], .int .i64 0]) ∧ Below w.heap.size w w'))
    (ma : Hid (∀ w, Calls Try.prog 11 #[.agg #[.int .i64 x, .int .i64 y]] w fun e w' => e = .returned (.bool true) ∧ Below w.heap.size w w'))
    (mk : Hid (∀ w, Calls Try.prog 11 #[.agg #[.int .i64 (num + 1), .int .i64 (den + 1)]] w fun e w' => e = .returned (.bool false) ∧ Below w.heap.size w w')) :
    Calls Try.prog 8 #[.int .u16 num, .int .u16 den, .int .u32 0] w fun e w' => e = .returned (.bool true) ∧ Below w.heap.size w w' := by
  have l := Lib.hid lives02_any
  have B0 := Lib.hid (Below.refl w.heap.size w)
  go_enter Try.func8, Try.ntmps8
  go_wp2_with fail
  refine (o1.out _).mono ?_
  rintro e w1 ⟨rfl, b1⟩
  have B_1 := Lib.hid (B0.out.trans (b1.mono B0.out.size))
  clear b1
  have KX_a1 := Lib.hid (Blk.new w1 #[.int .i64 x, .int .i64 y] 23)
  have B_a1 := Lib.hid (B_1.out.alloc B_1.out.size (.cells #[.int .i64 x, .int .i64 y] 23))
  go_wp2_with fail
  refine (o2.out _).mono ?_
  rintro e w2 ⟨rfl, b2⟩
  have KX_2 := Lib.hid (KX_a1.out.below b2 KX_a1.out.lt)
  have B_2 := Lib.hid (B_a1.out.trans (b2.mono B_a1.out.size))
  clear b2
  have KX_a2 := Lib.hid (KX_2.out.alloc (.cells #[.int .i64 x, .int .i64 y] 23))
  have KY_a2 := Lib.hid (Blk.new w2 #[.int .i64 x, .int .i64 y] 23)
  have B_a2 := Lib.hid (B_2.out.alloc B_2.out.size (.cells #[.int .i64 x, .int .i64 y] 23))
  have x0_KX_2 := KX_a2.out.cell 0; have x1_KX_2 := KX_a2.out.cell 1
  simp at x0_KX_2 x1_KX_2
  go_wp2_with fail
  refine (ma.out _).mono ?_
  rintro e w3 ⟨rfl, b3⟩
  have KX_3 := Lib.hid (KX_a2.out.below b3 KX_a2.out.lt)
  have KY_3 := Lib.hid (KY_a2.out.below b3 KY_a2.out.lt)
  have B_3 := Lib.hid (B_a2.out.trans (b3.mono B_a2.out.size))
  clear b3
  have x0_KX_3 := KX_3.out.cell 0; have x1_KX_3 := KX_3.out.cell 1
  simp at x0_KX_3 x1_KX_3
  go_wp2_with fail
  refine (mk.out _).mono ?_
  rintro e w4 ⟨rfl, b4⟩
  have KX_4 := Lib.hid (KX_3.out.below b4 KX_3.out.lt)
  have KY_4 := Lib.hid (KY_3.out.below b4 KY_3.out.lt)
  have B_4 := Lib.hid (B_3.out.trans (b4.mono B_3.out.size))
  clear b4
  have x0_KX_4 := KX_4.out.cell 0; have x1_KX_4 := KX_4.out.cell 1
  simp at x0_KX_4 x1_KX_4
  go_wp2_with fail
  refine (l.out _).mono ?_
  rintro e w5 ⟨rfl, b5⟩
  have KX_5 := Lib.hid (KX_4.out.below b5 KX_4.out.lt)
  have KY_5 := Lib.hid (KY_4.out.below b5 KY_4.out.lt)
  have B_5 := Lib.hid (B_4.out.trans (b5.mono B_4.out.size))
  clear b5
  go_wp2_with fail
  go_ret
  exact ⟨rfl, B_5.out⟩
set_option maxHeartbeats 8000000 in
set_option maxRecDepth 100000 in
theorem ratsscaled_big (num den by_ x y : Int) (w : World) (n0 : 0 ≤ num) (n1 : num ≤ 65535) (d0 : 0 ≤ den) (d1 : den ≤ 65535) (hxy : (x * (den + 1) == y * (num + 1)) = true) (x0 : 0 ≤ x * (den + 1)) (x1 : x * (den + 1) ≤ 4294967296) (y0 : 0 ≤ y * (num + 1)) (y1 : y * (num + 1) ≤ 4294967296) (k0 : 1 ≤ by_) (k1 : by_ ≤ 4294967295)
    (o1 : Hid (∀ w, Calls Try.prog 9 #[.int .i64 (num + 1), .int .i64 (den + 1)] w fun e w' => e = .returned (.tuple #[.agg #[.int .i64 x, .int .i64 y], .int .i64 0]) ∧ Below w.heap.size w w'))
    (o2 : Hid (∀ w, Calls Try.prog 9 #[.int .i64 ((num + 1) * (by_ + 1)), .int .i64 ((den + 1) * (by_ + 1))] w fun e w' => e = .returned (.tuple #[.agg #[.int .i64 x, .int .i64 y], .int .i64 0]) ∧ Below w.heap.size w w'))
    (ma : Hid (∀ w, Calls Try.prog 11 #[.agg #[.int .i64 x, .int .i64 y]] w fun e w' => e = .returned (.bool true) ∧ Below w.heap.size w w'))
    (mk : Hid (∀ w, Calls Try.prog 11 #[.agg #[.int .i64 ((num + 1) * (by_ + 1)), .int .i64 ((den + 1) * (by_ + 1))]] w fun e w' => e = .returned (.bool false) ∧ Below w.heap.size w w')) :
    Calls Try.prog 8 #[.int .u16 num, .int .u16 den, .int .u32 by_] w fun e w' => e = .returned (.bool true) ∧ Below w.heap.size w w' := by
  have l := Lib.hid lives02_any
  have p0 : 0 ≤ (num + 1) * (by_ + 1) := Int.mul_nonneg (by omega) (by omega)
  have p1 : (num + 1) * (by_ + 1) ≤ 65536 * 4294967296 := Int.mul_le_mul (by omega) (by omega) (by omega) (by omega)
  have q0 : 0 ≤ (den + 1) * (by_ + 1) := Int.mul_nonneg (by omega) (by omega)
  have q1 : (den + 1) * (by_ + 1) ≤ 65536 * 4294967296 := Int.mul_le_mul (by omega) (by omega) (by omega) (by omega)
  have e1 : (by_ + 1 == 1) = false := by simp; omega
  have B0 := Lib.hid (Below.refl w.heap.size w)
  go_enter Try.func8, Try.ntmps8
  go_wp2_with fail
  refine (o1.out _).mono ?_
  rintro e w1 ⟨rfl, b1⟩
  have B_1 := Lib.hid (B0.out.trans (b1.mono B0.out.size))
  clear b1
  have KX_a1 := Lib.hid (Blk.new w1 #[.int .i64 x, .int .i64 y] 23)
  have B_a1 := Lib.hid (B_1.out.alloc B_1.out.size (.cells #[.int .i64 x, .int .i64 y] 23))
  go_wp2_with fail
  refine (o2.out _).mono ?_
  rintro e w2 ⟨rfl, b2⟩
  have KX_2 := Lib.hid (KX_a1.out.below b2 KX_a1.out.lt)
  have B_2 := Lib.hid (B_a1.out.trans (b2.mono B_a1.out.size))
  clear b2
  have KX_a2 := Lib.hid (KX_2.out.alloc (.cells #[.int .i64 x, .int .i64 y] 23))
  have KY_a2 := Lib.hid (Blk.new w2 #[.int .i64 x, .int .i64 y] 23)
  have B_a2 := Lib.hid (B_2.out.alloc B_2.out.size (.cells #[.int .i64 x, .int .i64 y] 23))
  have x0_KX_2 := KX_a2.out.cell 0; have x1_KX_2 := KX_a2.out.cell 1
  simp at x0_KX_2 x1_KX_2
  go_wp2_with fail
  refine (ma.out _).mono ?_
  rintro e w3 ⟨rfl, b3⟩
  have KX_3 := Lib.hid (KX_a2.out.below b3 KX_a2.out.lt)
  have KY_3 := Lib.hid (KY_a2.out.below b3 KY_a2.out.lt)
  have B_3 := Lib.hid (B_a2.out.trans (b3.mono B_a2.out.size))
  clear b3
  have x0_KX_3 := KX_3.out.cell 0; have x1_KX_3 := KX_3.out.cell 1
  simp at x0_KX_3 x1_KX_3
  go_wp2_with fail
  refine (mk.out _).mono ?_
  rintro e w4 ⟨rfl, b4⟩
  have KX_4 := Lib.hid (KX_3.out.below b4 KX_3.out.lt)
  have KY_4 := Lib.hid (KY_3.out.below b4 KY_3.out.lt)
  have B_4 := Lib.hid (B_3.out.trans (b4.mono B_3.out.size))
  clear b4
  have x0_KX_4 := KX_4.out.cell 0; have x1_KX_4 := KX_4.out.cell 1
  simp at x0_KX_4 x1_KX_4
  go_wp2_with fail
  refine (l.out _).mono ?_
  rintro e w5 ⟨rfl, b5⟩
  have KX_5 := Lib.hid (KX_4.out.below b5 KX_4.out.lt)
  have KY_5 := Lib.hid (KY_4.out.below b5 KY_4.out.lt)
  have B_5 := Lib.hid (B_4.out.trans (b5.mono B_4.out.size))
  clear b5
  go_wp2_with fail
  go_ret
  exact ⟨rfl, B_5.out⟩
theorem ratsscaled_any (num den by_ : Int) (w : World) (n0 : 0 ≤ num) (n1 : num ≤ 65535) (d0 : 0 ≤ den) (d1 : den ≤ 65535) (k0 : 0 ≤ by_) (k1 : by_ ≤ 4294967295) :
    Calls Try.prog 8 #[.int .u16 num, .int .u16 den, .int .u32 by_] w fun e w' => e = .returned (.bool true) ∧ Below w.heap.size w w' := by
  have p0 : 1 ≤ (num + 1) * (by_ + 1) := Int.mul_pos (by omega) (by omega)
  have p1 : (num + 1) * (by_ + 1) ≤ 65536 * 4294967296 := Int.mul_le_mul (by omega) (by omega) (by omega) (by omega)
  have q0 : 1 ≤ (den + 1) * (by_ + 1) := Int.mul_pos (by omega) (by omega)
  have q1 : (den + 1) * (by_ + 1) ≤ 65536 * 4294967296 := Int.mul_le_mul (by omega) (by omega) (by omega) (by omega)
  have o1 := Lib.hid (fun w => of_rat (num + 1) (den + 1) w ⟨by omega, by omega⟩ ⟨by omega, by omega⟩)
  have o2 := Lib.hid (fun w => of_rat ((num + 1) * (by_ + 1)) ((den + 1) * (by_ + 1)) w ⟨by omega, by omega⟩ ⟨by omega, by omega⟩)
  have mk := Lib.hid (fun w => may_any ((num + 1) * (by_ + 1)) ((den + 1) * (by_ + 1)) w ⟨by omega, by omega⟩ ⟨by omega, by omega⟩)
  obtain ⟨g0, x0, xn, y0, yd⟩ := gcd_bd (n := num + 1) (d := den + 1) (by omega) (by omega)
  have hgk : (Int.gcd ((num + 1) * (by_ + 1)) ((den + 1) * (by_ + 1)) : Int) = Int.gcd (num + 1) (den + 1) * (by_ + 1) := by
    rw [Int.gcd_mul_right, Int.natCast_mul]
    congr 1
    omega
  have hN : (num + 1) * (by_ + 1) / (Int.gcd (num + 1) (den + 1) * (by_ + 1)) = (num + 1) / Int.gcd (num + 1) (den + 1) := Int.mul_ediv_mul_of_pos_left _ _ (by omega)
  have hD : (den + 1) * (by_ + 1) / (Int.gcd (num + 1) (den + 1) * (by_ + 1)) = (den + 1) / Int.gcd (num + 1) (den + 1) := Int.mul_ediv_mul_of_pos_left _ _ (by omega)
  rw [ofV_good (by omega) (by omega) rfl (by omega)] at o1
  rw [ofV_good (by omega) (by omega) hgk (by rw [hN, hD]; omega), hN, hD] at o2
  have hn : Int.gcd (num + 1) (den + 1) * ((num + 1) / Int.gcd (num + 1) (den + 1)) = num + 1 := Int.mul_ediv_cancel' (Int.gcd_dvd_left ..)
  have hd : Int.gcd (num + 1) (den + 1) * ((den + 1) / Int.gcd (num + 1) (den + 1)) = den + 1 := Int.mul_ediv_cancel' (Int.gcd_dvd_right ..)
  have hmk : mayB ((num + 1) * (by_ + 1)) ((den + 1) * (by_ + 1)) = decide (by_ = 0 ∧ (Int.gcd (num + 1) (den + 1) : Int) = 1) := by
    unfold mayB
    rw [decide_eq_decide]
    unfold MayN
    have hz : 1 ≤ (Int.gcd (num + 1) (den + 1) : Int) * (by_ + 1) := Int.mul_pos (by omega) (by omega)
    have h1 : Int.gcd ((num + 1) * (by_ + 1)) ((den + 1) * (by_ + 1)) = 1 ↔ (Int.gcd (num + 1) (den + 1) : Int) * (by_ + 1) = 1 := by rw [← hgk]; omega
    rw [h1]
    constructor
    · rintro ⟨_, _, _, _, h5⟩
      have e1 : by_ = 0 := by
        rcases Int.lt_or_le 0 by_ with h | h
        · have := Int.mul_le_mul (show 1 ≤ (Int.gcd (num + 1) (den + 1) : Int) by omega) (show 2 ≤ by_ + 1 by omega) (by omega) (by omega)
          omega
        · omega
      subst e1
      exact ⟨rfl, by simpa using h5⟩
    · rintro ⟨rfl, h⟩
      exact ⟨by omega, by omega, by omega, by omega, by omega⟩
  have ma := Lib.hid (fun w => may_any ((num + 1) / Int.gcd (num + 1) (den + 1)) ((den + 1) / Int.gcd (num + 1) (den + 1)) w ⟨by omega, by omega⟩ ⟨by omega, by omega⟩)
  have hma : mayB ((num + 1) / Int.gcd (num + 1) (den + 1)) ((den + 1) / Int.gcd (num + 1) (den + 1)) = true := by
    rw [may_iff]
    refine ⟨?_, ?_, by omega, by omega, ?_⟩
    · rcases Int.lt_or_le 0 ((num + 1) / Int.gcd (num + 1) (den + 1)) with h | h
      · exact h
      · rw [show (num + 1) / (Int.gcd (num + 1) (den + 1) : Int) = 0 by omega, Int.mul_zero] at hn; omega
    · rcases Int.lt_or_le 0 ((den + 1) / Int.gcd (num + 1) (den + 1)) with h | h
      · exact h
      · rw [show (den + 1) / (Int.gcd (num + 1) (den + 1) : Int) = 0 by omega, Int.mul_zero] at hd; omega
    · exact Int.gcd_ediv_gcd_ediv_gcd (by omega)
  rw [hma] at ma
  rw [hmk] at mk
  generalize (Int.gcd (num + 1) (den + 1) : Int) = g at *
  generalize (num + 1) / g = x at *
  generalize (den + 1) / g = y at *
  have hxy : (x * (den + 1) == y * (num + 1)) = true := by
    rw [← hn, ← hd, beq_iff_eq, ← Int.mul_assoc, ← Int.mul_assoc, Int.mul_comm x g, Int.mul_comm y g, Int.mul_assoc, Int.mul_assoc, Int.mul_comm x y]
  have x2 : 0 ≤ x * (den + 1) := Int.mul_nonneg x0 (by omega)
  have x3 : x * (den + 1) ≤ 65536 * 65536 := Int.mul_le_mul (by omega) (by omega) (by omega) (by omega)
  have y2 : 0 ≤ y * (num + 1) := Int.mul_nonneg y0 (by omega)
  have y3 : y * (num + 1) ≤ 65536 * 65536 := Int.mul_le_mul (by omega) (by omega) (by omega) (by omega)
  clear hmk hma hN hD hgk
  by_cases hb : by_ = 0
  · by_cases hg : g = 1
    · rw [decide_eq_true ⟨hb, hg⟩] at mk
      subst hb
      simp only [Int.zero_add, Int.mul_one] at o2 mk
      exact ratsscaled_yes num den x y w n0 n1 d0 d1 hxy x2 (by omega) y2 (by omega) (by rw [hg, Int.one_mul] at hn; rw [beq_iff_eq]; exact hn) o1 o2 ma mk
    · rw [decide_eq_false (by rintro ⟨_, h⟩; exact hg h)] at mk
      subst hb
      simp only [Int.zero_add, Int.mul_one] at o2 mk
      refine ratsscaled_div num den x y w n0 n1 d0 d1 hxy x2 (by omega) y2 (by omega) ?_ o1 o2 ma mk
      rw [beq_eq_false_iff_ne]
      intro h
      rw [h] at hn
      have : (g - 1) * (num + 1) = 0 := by rw [Int.sub_mul]; omega
      rcases Int.mul_eq_zero.1 this with h | h <;> omega
  · rw [decide_eq_false (by rintro ⟨h, _⟩; exact hb h)] at mk
    exact ratsscaled_big num den by_ x y w n0 n1 d0 d1 hxy x2 (by omega) y2 (by omega) (by omega) k1 o1 o2 ma mk
theorem ratsscaled_walk (num den by_ : Int) (w : World) (h0 : (Lit.int .u16 num).wf = true) (h1 : (Lit.int .u16 den).wf = true) (h2 : (Lit.int .u32 by_).wf = true) :
    Calls Try.prog 8 #[.int .u16 num, .int .u16 den, .int .u32 by_] w fun e w' => e = .returned (.bool true) ∧ Below w.heap.size w w' :=
  ratsscaled_any num den by_ w (bounds_u16 h0).1 (bounds_u16 h0).2 (bounds_u16 h1).1 (bounds_u16 h1).2 (bounds_u32 h2).1 (bounds_u32 h2).2

end Go.Proofs.Ytdkmbbjdoonomaa
