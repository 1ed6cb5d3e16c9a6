/-
  ExactsNear: what is floored, times den, and what is left; what is raised. The walk, for every three numbers.
-/
import Derived.Test.YtonbinbjddameaaLives01
namespace Go.Proofs.Ytonbinbjddameaa
open Go.RowKit
set_option linter.unusedSimpArgs false
set_option linter.unusedVariables false

set_option maxHeartbeats 4000000 in
set_option maxRecDepth 100000 in
theorem near_bad (a num den : Int) (w : World) (ha : In64 a) (hn : In64 num) (hd : In64 den) (hbad : a < 0 ∨ num < 0 ∨ den < 1) :
    Calls Try.prog 7 #[.int .i64 a, .int .i64 num, .int .i64 den] w fun e w' => e = .returned (.bool true) ∧ Below w.heap.size w w' := by
  have c1 := Lib.hid (fun w => down_any a num den w ha hn hd)
  have c2 := Lib.hid (fun w => up_any a num den w ha hn hd)
  rw [show downV a num den = .tuple #[.int .i64 0, .int .i64 1] by simp [downV, hbad]] at c1
  rw [show upV a num den = .tuple #[.int .i64 0, .int .i64 1] by simp [upV, hbad]] at c2
  have l := Lib.hid lives01_any
  have hs : (a < 0) ∨ (¬ a < 0 ∧ num < 0) ∨ (¬ a < 0 ∧ ¬ num < 0 ∧ den < 1) := by omega
  clear hbad ha hn hd
  rcases hs with h1 | ⟨h1, h2⟩ | ⟨h1, h2, h3⟩
  · go_enter Try.func7, Try.ntmps7
    go_wp2_with fail
    refine (c1.out _).mono ?_
    rintro e w1 ⟨rfl, b1⟩
    go_wp2_with fail
    refine (c2.out _).mono ?_
    rintro e w2 ⟨rfl, b2⟩
    go_wp2_with fail
    refine (l.out _).mono ?_
    rintro e w3 ⟨rfl, b3⟩
    go_wp2_with fail
    go_ret
    exact ⟨rfl, andB (andB b1 b2) b3⟩
  · go_enter Try.func7, Try.ntmps7
    go_wp2_with fail
    refine (c1.out _).mono ?_
    rintro e w1 ⟨rfl, b1⟩
    go_wp2_with fail
    refine (c2.out _).mono ?_
    rintro e w2 ⟨rfl, b2⟩
    go_wp2_with fail
    refine (l.out _).mono ?_
    rintro e w3 ⟨rfl, b3⟩
    go_wp2_with fail
    go_ret
    exact ⟨rfl, andB (andB b1 b2) b3⟩
  · go_enter Try.func7, Try.ntmps7
    go_wp2_with fail
    refine (c1.out _).mono ?_
    rintro e w1 ⟨rfl, b1⟩
    go_wp2_with fail
    refine (c2.out _).mono ?_
    rintro e w2 ⟨rfl, b2⟩
    go_wp2_with fail
    refine (l.out _).mono ?_
    rintro e w3 ⟨rfl, b3⟩
    go_wp2_with fail
    go_ret
    exact ⟨rfl, andB (andB b1 b2) b3⟩

/-- The test of the statement where the quotient is too great. -/
theorem near_over_test (n den : Int) (h0 : 0 ≤ n) (hd : 1 ≤ den) (hd2 : In64 den) (hf : ¬ In64 (n / den)) :
    den / 2 < n / 18446744073709551616 ∨ (¬ den / 2 < n / 18446744073709551616 ∧ n / 18446744073709551616 = den / 2 ∧ IntKind.u64.wrap (den * 9223372036854775808) ≤ n % 18446744073709551616) := by
  unfold In64 at *
  have hq := Int.ediv_nonneg h0 (show 0 ≤ den by omega)
  have h2 : 9223372036854775808 * den ≤ n := by
    have := Int.ediv_mul_le n (show den ≠ 0 by omega)
    have h3 : 9223372036854775808 * den ≤ n / den * den := Int.mul_le_mul_of_nonneg_right (by omega) (by omega)
    omega
  rw [wrap_u64]
  omega

set_option maxHeartbeats 4000000 in
set_option maxRecDepth 100000 in
theorem near_over (a num den : Int) (w : World) (ha : In64 a) (hn : In64 num) (hd : In64 den) (h1 : 0 ≤ a) (h2 : 0 ≤ num) (h3 : 1 ≤ den) (hf : ¬ In64 (a * num / den)) :
    Calls Try.prog 7 #[.int .i64 a, .int .i64 num, .int .i64 den] w fun e w' => e = .returned (.bool true) ∧ Below w.heap.size w w' := by
  have c1 := Lib.hid (fun w => down_any a num den w ha hn hd)
  have c2 := Lib.hid (fun w => up_any a num den w ha hn hd)
  have h0 : 0 ≤ a * num := Int.mul_nonneg h1 h2
  have hq0 : 0 ≤ a * num / den := Int.ediv_nonneg h0 (by omega)
  have hnf : ¬ In64 (upN (a * num) den) := by unfold upN; unfold In64 at *; split <;> omega
  rw [show downV a num den = .tuple #[.int .i64 0, .int .i64 10] by rw [downV, if_neg (by omega), ans_not _ hf]] at c1
  rw [show upV a num den = .tuple #[.int .i64 0, .int .i64 10] by rw [upV, if_neg (by omega), ans_not _ hnf]] at c2
  have ht := near_over_test (a * num) den h0 h3 hd hf
  unfold In64 at ha hn hd
  have ua : IntKind.u64.wrap a = a := by rw [wrap_u64]; omega
  have un : IntKind.u64.wrap num = num := by rw [wrap_u64]; omega
  have ud : IntKind.u64.wrap den = den := by rw [wrap_u64]; omega
  have cm := Lib.hid (fun w => mul64_any a num w (by unfold InU64; omega) (by unfold InU64; omega))
  have l := Lib.hid lives01_any
  clear hf hnf hq0 h0
  generalize a * num = n at *
  rcases ht with ht | ⟨ht1, ht2, ht3⟩
  · go_enter Try.func7, Try.ntmps7
    go_wp2_with fail
    refine (c1.out _).mono ?_
    rintro e w1 ⟨rfl, b1⟩
    go_wp2_with fail
    refine (c2.out _).mono ?_
    rintro e w2 ⟨rfl, b2⟩
    go_wp2_with fail
    refine (cm.out _).mono ?_
    rintro e w3 ⟨rfl, rfl⟩
    go_wp2_with fail
    refine (l.out _).mono ?_
    rintro e w4 ⟨rfl, b4⟩
    go_wp2_with fail
    go_ret
    exact ⟨rfl, andB (andB b1 b2) b4⟩
  · have ht2' : (n / 18446744073709551616 == den / 2) = true := by simp [ht2]
    clear ht2
    go_enter Try.func7, Try.ntmps7
    go_wp2_with fail
    refine (c1.out _).mono ?_
    rintro e w1 ⟨rfl, b1⟩
    go_wp2_with fail
    refine (c2.out _).mono ?_
    rintro e w2 ⟨rfl, b2⟩
    go_wp2_with fail
    refine (cm.out _).mono ?_
    rintro e w3 ⟨rfl, rfl⟩
    go_wp2_with fail
    refine (l.out _).mono ?_
    rintro e w4 ⟨rfl, b4⟩
    go_wp2_with fail
    go_ret
    exact ⟨rfl, andB (andB b1 b2) b4⟩

theorem near_left (n den : Int) (h0 : 0 ≤ n) (h1 : n < 170141183460469231731687303715884105728) (hd : 1 ≤ den) (hd2 : In64 den) :
    ∃ o : Int, 0 ≤ o ∧ o ≤ 1 ∧ (∀ w, (callFunc 25 #[.int .u64 (n % 18446744073709551616), .int .u64 (n / den * den % 18446744073709551616), .int .u64 0]).run Try.prog w = .ok (.value (.tuple #[.int .u64 (n % den), .int .u64 o])) w) ∧
      (∀ w, (callFunc 25 #[.int .u64 (n / 18446744073709551616), .int .u64 (n / den * den / 18446744073709551616), .int .u64 o]).run Try.prog w = .ok (.value (.tuple #[.int .u64 0, .int .u64 0])) w) := by
  have hm := Int.emod_nonneg n (show den ≠ 0 by omega)
  have hm2 := Int.emod_lt_of_pos n (show 0 < den by omega)
  have hdm := Int.mul_ediv_add_emod n den
  have hq := Int.ediv_nonneg h0 (show 0 ≤ den by omega)
  have hp : 0 ≤ n / den * den := Int.mul_nonneg hq (by omega)
  rw [Int.mul_comm] at hdm
  unfold In64 at hd2
  generalize n / den * den = p at *
  generalize n % den = m at *
  have hb : (0 : Int) ≤ (if n % 18446744073709551616 < p % 18446744073709551616 + 0 then 1 else 0) ∧ (if n % 18446744073709551616 < p % 18446744073709551616 + 0 then 1 else 0 : Int) ≤ 1 := by split <;> omega
  refine ⟨if n % 18446744073709551616 < p % 18446744073709551616 + 0 then 1 else 0, hb.1, hb.2, fun w => ?_, fun w => ?_⟩
  · rw [run_Sub64 _ _ 0 (by unfold InU64; omega) (by unfold InU64; omega) (by omega) (by omega)]
    rw [show (n % 18446744073709551616 - p % 18446744073709551616 - 0) % 18446744073709551616 = m by omega]
  · rw [run_Sub64 _ _ _ (by unfold InU64; omega) (by unfold InU64; omega) hb.1 hb.2]
    rw [show (n / 18446744073709551616 - p / 18446744073709551616 - (if n % 18446744073709551616 < p % 18446744073709551616 + 0 then 1 else 0)) % 18446744073709551616 = 0 by split <;> omega,
      if_neg (by split <;> omega)]

set_option maxHeartbeats 4000000 in
set_option maxRecDepth 100000 in
theorem near_good (a num den : Int) (w : World) (ha : In64 a) (hn : In64 num) (hd : In64 den) (h1 : 0 ≤ a) (h2 : 0 ≤ num) (h3 : 1 ≤ den) (hf : In64 (a * num / den)) :
    Calls Try.prog 7 #[.int .i64 a, .int .i64 num, .int .i64 den] w fun e w' => e = .returned (.bool true) ∧ Below w.heap.size w w' := by
  have c1 := Lib.hid (fun w => down_any a num den w ha hn hd)
  have c2 := Lib.hid (fun w => up_any a num den w ha hn hd)
  have h0 : 0 ≤ a * num := Int.mul_nonneg h1 h2
  have hmb := mul_bd a num ha hn
  have hq0 : 0 ≤ a * num / den := Int.ediv_nonneg h0 (by omega)
  have hm0 := Int.emod_nonneg (a * num) (show den ≠ 0 by omega)
  have hm1 := Int.emod_lt_of_pos (a * num) (show 0 < den by omega)
  rw [show downV a num den = .tuple #[.int .i64 (a * num / den), .int .i64 0] by rw [downV, if_neg (by omega), ans_of _ hf]] at c1
  rw [show upV a num den = ans (upN (a * num) den) by rw [upV, if_neg (by omega)]] at c2
  obtain ⟨o, o1, o2, s1, s2⟩ := near_left (a * num) den h0 hmb.2 h3 hd
  unfold In64 at ha hn hd
  have ua : IntKind.u64.wrap a = a := by rw [wrap_u64]; omega
  have un : IntKind.u64.wrap num = num := by rw [wrap_u64]; omega
  have ud : IntKind.u64.wrap den = den := by rw [wrap_u64]; omega
  have cm := Lib.hid (fun w => mul64_any a num w (by unfold InU64; omega) (by unfold InU64; omega))
  have hf' := hf
  unfold In64 at hf'
  have uq : IntKind.u64.wrap (a * num / den) = a * num / den := by rw [wrap_u64]; omega
  have cm2 := Lib.hid (fun w => mul64_any (a * num / den) den w (by unfold InU64; omega) (by unfold InU64; omega))
  have l := Lib.hid lives01_any
  clear h0 hmb
  generalize a * num = n at *
  by_cases hz : n % den = 0
  · rw [show upN n den = n / den by simp [upN, hz], ans_of _ hf] at c2
    have hz' : (n % den == 0) = true := by simp [hz]
    clear hz
    generalize n % den = m at *
    generalize n / den = q at *
    go_enter Try.func7, Try.ntmps7
    go_wp2_with fail
    refine (c1.out _).mono ?_
    rintro e w1 ⟨rfl, b1⟩
    go_wp2_with fail
    refine (c2.out _).mono ?_
    rintro e w2 ⟨rfl, b2⟩
    go_wp2_with fail
    refine (cm.out _).mono ?_
    rintro e w3 ⟨rfl, rfl⟩
    go_wp2_with fail
    refine (cm2.out _).mono ?_
    rintro e w3 ⟨rfl, rfl⟩
    go_wp2_with fail
    refine (l.out _).mono ?_
    rintro e w4 ⟨rfl, b4⟩
    go_wp2_with fail
    go_ret
    exact ⟨rfl, andB (andB b1 b2) b4⟩
  · rw [show upN n den = n / den + 1 by simp [upN, hz]] at c2
    have hz' : (n % den == 0) = false := by simp [hz]
    clear hz
    by_cases ht : n / den = 9223372036854775807
    · rw [ans_not _ (by unfold In64; omega)] at c2
      have ht' : (n / den == 9223372036854775807) = true := by simp [ht]
      clear ht
      generalize n % den = m at *
      generalize n / den = q at *
      go_enter Try.func7, Try.ntmps7
      go_wp2_with fail
      refine (c1.out _).mono ?_
      rintro e w1 ⟨rfl, b1⟩
      go_wp2_with fail
      refine (c2.out _).mono ?_
      rintro e w2 ⟨rfl, b2⟩
      go_wp2_with fail
      refine (cm.out _).mono ?_
      rintro e w3 ⟨rfl, rfl⟩
      go_wp2_with fail
      refine (cm2.out _).mono ?_
      rintro e w3 ⟨rfl, rfl⟩
      go_wp2_with fail
      refine (l.out _).mono ?_
      rintro e w4 ⟨rfl, b4⟩
      go_wp2_with fail
      go_ret
      exact ⟨rfl, andB (andB b1 b2) b4⟩
    · have hf2 : In64 (n / den + 1) := by unfold In64; omega
      rw [ans_of _ hf2] at c2
      have ht' : (n / den == 9223372036854775807) = false := by simp [ht]
      have hw : wrap64 (n / den + 1) = n / den + 1 := wrap64_of _ hf2
      generalize n % den = m at *
      generalize n / den = q at *
      go_enter Try.func7, Try.ntmps7
      go_wp2_with fail
      refine (c1.out _).mono ?_
      rintro e w1 ⟨rfl, b1⟩
      go_wp2_with fail
      refine (c2.out _).mono ?_
      rintro e w2 ⟨rfl, b2⟩
      go_wp2_with fail
      refine (cm.out _).mono ?_
      rintro e w3 ⟨rfl, rfl⟩
      go_wp2_with fail
      refine (cm2.out _).mono ?_
      rintro e w3 ⟨rfl, rfl⟩
      go_wp2_with fail
      refine (l.out _).mono ?_
      rintro e w4 ⟨rfl, b4⟩
      go_wp2_with fail
      go_ret
      exact ⟨rfl, andB (andB b1 b2) b4⟩

theorem near_walk (a num den : Int) (w : World) (ha : (Lit.int .i64 a).wf = true) (hn : (Lit.int .i64 num).wf = true) (hd : (Lit.int .i64 den).wf = true) :
    Calls Try.prog 7 #[.int .i64 a, .int .i64 num, .int .i64 den] w fun e w' => e = .returned (.bool true) ∧ Below w.heap.size w w' := by
  have ha := In64.of_wf ha; have hn := In64.of_wf hn; have hd := In64.of_wf hd
  by_cases hbad : a < 0 ∨ num < 0 ∨ den < 1
  · exact near_bad a num den w ha hn hd hbad
  · by_cases hf : In64 (a * num / den)
    · exact near_good a num den w ha hn hd (by omega) (by omega) (by omega) hf
    · exact near_over a num den w ha hn hd (by omega) (by omega) (by omega) hf

end Go.Proofs.Ytonbinbjddameaa
