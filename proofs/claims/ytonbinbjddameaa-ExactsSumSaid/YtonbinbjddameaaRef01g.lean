/-
  countinghouseref01's Add, Sub, Mul, for every two numbers.
-/
import Derived.Test.YtonbinbjddameaaRef01d
namespace Go.Proofs.Ytonbinbjddameaa
open Go.RowKit
set_option linter.unusedSimpArgs false
set_option linter.unusedVariables false

/-- A sign and a size as a number. -/
def signed (neg : Bool) (x : Nat) : Int := if neg then -(x : Int) else x
theorem signed_abs (a : Int) : signed (decide (a < 0)) a.natAbs = a := by
  unfold signed; by_cases h : a < 0 <;> simp [h] <;> omega
theorem signed_tog (na nb : Bool) (x y : Nat) : signed (togSign na nb x y) (togSize na nb x y) = signed na x + signed nb y := by
  unfold signed togSign togSize
  by_cases h : x < y <;> cases na <;> cases nb <;> simp [h] <;> omega
theorem togSize_le (na nb : Bool) (x y : Nat) : togSize na nb x y ≤ x + y := by
  unfold togSize; split; omega; split <;> omega
theorem signed_not (n : Bool) (x : Nat) : signed (!n) x = -signed n x := by cases n <;> simp [signed]
theorem signed_times (na nb : Bool) (x y : Nat) : signed (!(na == nb)) (x * y) = signed na x * signed nb y := by
  unfold signed; cases na <;> cases nb <;> simp [Int.neg_mul, Int.mul_neg]
theorem abs64 {a : Int} (h : In64 a) : a.natAbs ≤ 9223372036854775808 := by unfold In64 at h; omega
theorem pair192 {x y : Nat} (hx : x ≤ 9223372036854775808) (hy : y ≤ 9223372036854775808) : x < 2 ^ 192 ∧ y < 2 ^ 192 ∧ x + y < 2 ^ 192 ∧ x * y < 2 ^ 192 := by
  have h := Nat.mul_le_mul hx hy
  refine ⟨Nat.lt_of_le_of_lt hx (by decide), Nat.lt_of_le_of_lt hy (by decide), Nat.lt_of_le_of_lt (Nat.add_le_add hx hy) (by decide), Nat.lt_of_le_of_lt h (by decide)⟩
theorem ans_pair (x : Int) : ans x = .tuple #[.int .i64 (okN x), .int .i64 (erN x)] := rfl

set_option maxHeartbeats 1000000 in
theorem radd_any (a b : Int) (w : World) (ha : In64 a) (hb : In64 b) :
    Calls Try.prog 9 #[.int .i64 a, .int .i64 b] w fun e w' => e = .returned (ans (a + b)) ∧ Below w.heap.size w w' := by
  obtain ⟨hx, hy, hxy, _⟩ := pair192 (abs64 ha) (abs64 hb)
  have c1 := Lib.hid (fun w => of_any a w ha)
  have c2 := Lib.hid (fun w => of_any b w hb)
  have c3 := Lib.hid (fun w => together_any (decide (a < 0)) (decide (b < 0)) a.natAbs b.natAbs w hx hy)
  have c4 := Lib.hid (fun w => num_any (togSign (decide (a < 0)) (decide (b < 0)) a.natAbs b.natAbs) (togSize (decide (a < 0)) (decide (b < 0)) a.natAbs b.natAbs) w (Nat.lt_of_le_of_lt (togSize_le _ _ _ _) hxy))
  have e := signed_tog (decide (a < 0)) (decide (b < 0)) a.natAbs b.natAbs
  rw [signed_abs, signed_abs] at e
  unfold signed at e
  rw [e] at c4
  rw [ans_pair] at c4 ⊢
  clear e hx hy hxy ha hb
  unfold wholeV at *
  go_enter Try.func9, Try.ntmps9
  go_wp2_with fail
  refine (c1.out _).mono ?_
  rintro e w1 ⟨rfl, b1⟩
  go_wp2_with fail
  refine (c2.out _).mono ?_
  rintro e w2 ⟨rfl, b2⟩
  go_wp2_with fail
  refine (c3.out _).mono ?_
  rintro e w3 ⟨rfl, b3⟩
  go_wp2_with fail
  refine (c4.out _).mono ?_
  rintro e w4 ⟨rfl, b4⟩
  go_wp2_with fail
  go_ret2
  exact ⟨rfl, andB (andB (andB b1 b2) b3) b4⟩

set_option maxHeartbeats 1000000 in
theorem rmul_any (a b : Int) (w : World) (ha : In64 a) (hb : In64 b) :
    Calls Try.prog 14 #[.int .i64 a, .int .i64 b] w fun e w' => e = .returned (ans (a * b)) ∧ Below w.heap.size w w' := by
  obtain ⟨hx, hy, _, hxy⟩ := pair192 (abs64 ha) (abs64 hb)
  have c1 := Lib.hid (fun w => of_any a w ha)
  have c2 := Lib.hid (fun w => of_any b w hb)
  have c3 := Lib.hid (fun w => times_any (decide (a < 0)) (decide (b < 0)) a.natAbs b.natAbs w (Nat.lt_of_le_of_lt (abs64 hb) (by decide)))
  have c4 := Lib.hid (fun w => num_any (!(decide (a < 0) == decide (b < 0))) (a.natAbs * b.natAbs) w hxy)
  have e := signed_times (decide (a < 0)) (decide (b < 0)) a.natAbs b.natAbs
  rw [signed_abs, signed_abs] at e
  unfold signed at e
  rw [e] at c4
  rw [ans_pair] at c4 ⊢
  clear e hx hy hxy ha hb
  unfold wholeV at *
  go_enter Try.func14, Try.ntmps14
  go_wp2_with fail
  refine (c1.out _).mono ?_
  rintro e w1 ⟨rfl, b1⟩
  go_wp2_with fail
  refine (c2.out _).mono ?_
  rintro e w2 ⟨rfl, b2⟩
  go_wp2_with fail
  refine (c3.out _).mono ?_
  rintro e w3 ⟨rfl, b3⟩
  go_wp2_with fail
  refine (c4.out _).mono ?_
  rintro e w4 ⟨rfl, b4⟩
  go_wp2_with fail
  go_ret2
  exact ⟨rfl, andB (andB (andB b1 b2) b3) b4⟩

set_option maxHeartbeats 4000000 in
set_option maxRecDepth 100000 in
theorem rsub_any (a b : Int) (w : World) (ha : In64 a) (hb : In64 b) :
    Calls Try.prog 12 #[.int .i64 a, .int .i64 b] w fun e w' => e = .returned (ans (a - b)) ∧ Below w.heap.size w w' := by
  obtain ⟨hx, hy, hxy, _⟩ := pair192 (abs64 ha) (abs64 hb)
  have c1 := Lib.hid (fun w => of_any a w ha)
  have c2 := Lib.hid (fun w => of_any b w hb)
  have c3 := Lib.hid (fun w => together_any (decide (a < 0)) (!decide (b < 0)) a.natAbs b.natAbs w hx hy)
  have c4 := Lib.hid (fun w => num_any (togSign (decide (a < 0)) (!decide (b < 0)) a.natAbs b.natAbs) (togSize (decide (a < 0)) (!decide (b < 0)) a.natAbs b.natAbs) w (Nat.lt_of_le_of_lt (togSize_le _ _ _ _) hxy))
  have e := signed_tog (decide (a < 0)) (!decide (b < 0)) a.natAbs b.natAbs
  rw [signed_not, signed_abs, signed_abs, ← Int.sub_eq_add_neg] at e
  unfold signed at e
  rw [e] at c4
  rw [ans_pair] at c4 ⊢
  clear e hx hy hxy ha hb
  have hz := zero_whole
  generalize togSign (decide (a < 0)) (!decide (b < 0)) a.natAbs b.natAbs = ns at *
  generalize togSize (decide (a < 0)) (!decide (b < 0)) a.natAbs b.natAbs = xs at *
  generalize decide (a < 0) = na at *
  generalize decide (b < 0) = nb at *
  generalize a.natAbs = x at *
  generalize b.natAbs = y at *
  unfold wholeV at *
  go_enter Try.func12, Try.ntmps12
  go_wp2_with fail
  refine (c2.out _).mono ?_
  rintro e w1 ⟨rfl, b1⟩
  have k1 : Blk (w1.alloc (.cells (whole false fun _ => false) 49)) w1.heap.size (whole false fun _ => false) 49 := Blk.new _ _ _
  have k2 := k1.row (cs := whole nb y.testBit)
  have d0 := k2.cell 0
  rw [whole_get0] at d0
  have df := k2.frozen
  go_wp2_with ((with_reducible refine wpList_store_row ?_ 49 (.tmp 6) (.tmp 8) ?_ w1.heap.size (whole nb y.testBit) ?_ ?_ 49 _ k1.out (info_whole _ _) (by simp only [whole_size]) (whole_one _ _) ?_); exact rfl; exact rfl; exact rfl; exact rfl)
  have k3 := k2.set 0 (.bool (!nb))
  rw [whole_set0] at k3
  have hb : Below w.heap.size w (((w1.alloc (.cells (whole false fun _ => false) 49)).setRow w1.heap.size (whole nb y.testBit)).setCell ⟨w1.heap.size, 0, none⟩ (.bool (!nb))) :=
    (below_setRow (b1.alloc b1.size _) b1.size _).setCell b1.size _
  generalize ((w1.alloc (.cells (whole false fun _ => false) 49)).setRow w1.heap.size (whole nb y.testBit)).setCell ⟨w1.heap.size, 0, none⟩ (.bool (!nb)) = W at *
  refine region_still (by kernel_rfl) [.int .i64 a, .agg (whole na x.testBit), .agg (whole (!nb) y.testBit), .agg (whole ns xs.testBit), .tuple #[.int .i64 (okN (a - b)), .int .i64 (erN (a - b))], .int .i64 (okN (a - b)), .int .i64 (erN (a - b)), .int .i64 (okN (a - b)), .int .i64 (erN (a - b))]
    (fun w' => Below W.heap.size W w') (by kernel_rfl) (Below.refl _ _).drew ?_
  intro af haf
  simp only [puts, Act.put, List.getD_cons_zero, List.getD_cons_succ, List.setIfInBounds_toArray, List.set_cons_succ, List.set_cons_zero] at haf
  subst haf
  refine ⟨?_, ?_⟩
  · simp only [EachTo]
    refine ⟨?_, ?_, ?_, ?_, ?_, ?_, ?_, ?_, ?_, trivial⟩
    all_goals
      intro w' hS
      with_reducible refine OpTo.plain ?_ ?_
      exact rfl
    · go_wp2_with fail
      all_goals first | rfl | exact ⟨rfl, hS⟩
    · go_wp2_with fail
      refine (c1.out w').mono ?_
      rintro e w'' ⟨rfl, hb2⟩
      exact ⟨rfl, andB hS hb2⟩
    · exact wp_load_row 49 (.tmp 6) rfl w1.heap.size rfl 49 (whole (!nb) y.testBit) (0, 0) _ (k3.below hS k3.lt).out Try.underlying49 rfl (info_whole _ _) ⟨rfl, hS⟩
    · go_wp2_with fail
      refine (c3.out w').mono ?_
      rintro e w'' ⟨rfl, hb2⟩
      exact ⟨rfl, andB hS hb2⟩
    · go_wp2_with fail
      refine (c4.out w').mono ?_
      rintro e w'' ⟨rfl, hb2⟩
      exact ⟨rfl, andB hS hb2⟩
    all_goals
      go_wp2_with fail
      all_goals first | rfl | exact ⟨rfl, hS⟩
  · intro w' hS
    go_wp2_with fail
    go_ret2
    exact ⟨rfl, hb.trans (hS.mono hb.size)⟩

end Go.Proofs.Ytonbinbjddameaa
