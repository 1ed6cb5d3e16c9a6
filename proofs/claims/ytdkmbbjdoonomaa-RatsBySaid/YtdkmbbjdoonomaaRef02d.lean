/-
  countinghouseref02: Of's refusals, so all of Of; Fits.
-/
import Derived.Test.YtdkmbbjdoonomaaRats4
namespace Go.Proofs.Ytdkmbbjdoonomaa
open Go.RowKit
set_option linter.unusedSimpArgs false
set_option linter.unusedVariables false

set_option maxHeartbeats 1000000 in
theorem rof2_arg (n d : Int) (w : World) (h : n < 1 ∨ d < 1) :
    Calls Try.prog 10 #[.int .i64 n, .int .i64 d] w fun e w' => e = .returned (ofV n d) ∧ Below w.heap.size w w' := by
  rw [ofV_arg h]
  have q2 : Blk (w.alloc (.cells #[.int .i64 0, .int .i64 0] 23)) w.heap.size #[.int .i64 0, .int .i64 0] 23 := Blk.new _ _ _
  have hlt := q2.lt
  clear q2
  have hs : n < 1 ∨ (1 ≤ n ∧ d < 1) := by omega
  clear h
  rcases hs with h1 | ⟨h1, h2⟩
  all_goals
    go_enter Try.func10, Try.ntmps10
    go_wp2
    refine bodyPost_ret (v := .tuple #[.agg #[.int .i64 0, .int .i64 0], .int .i64 1]) (results_cell_and rfl _ _ w.heap.size 23 #[.int .i64 0, .int .i64 0] _ _ rfl (Blk.new w #[.int .i64 0, .int .i64 0] 23).out Try.underlying23 rfl (by kernel_rfl) rfl) rfl ⟨rfl, ?_⟩
    exact ((Below.refl _ _).alloc (Nat.le_refl _) _)
set_option maxHeartbeats 1000000 in
theorem rof2_over (n d g x y : Int) (w : World) (h1 : 1 ≤ n) (h2 : 1 ≤ d) (hn : In64 n) (hd : In64 d) (hg : (Int.gcd n d : Int) = g) (hx : n / g = x) (hy : d / g = y) (hx0 : 0 ≤ x) (hy0 : 0 ≤ y) (hxn : x ≤ n) (hyd : y ≤ d) (hg0 : 1 ≤ g) (ho : 1099511627776 < x ∨ 1099511627776 < y) :
    Calls Try.prog 10 #[.int .i64 n, .int .i64 d] w fun e w' => e = .returned (.tuple #[.agg #[.int .i64 0, .int .i64 0], .int .i64 10]) ∧ Below w.heap.size w w' := by
  have c := Lib.hid (fun w => common_any n d w hn hd h1 h2)
  rw [hg] at c
  have e1 : Int.tdiv n g = x := by rw [← hx]; exact Int.tdiv_eq_ediv_of_nonneg (by omega)
  have e2 : Int.tdiv d g = y := by rw [← hy]; exact Int.tdiv_eq_ediv_of_nonneg (by omega)
  have ew1 : wrap64 x = x := wrap64_of x ⟨by omega, by have := hn.2; omega⟩
  have ew2 : wrap64 y = y := wrap64_of y ⟨by omega, by have := hd.2; omega⟩
  have q2 : Blk (w.alloc (.cells #[.int .i64 0, .int .i64 0] 23)) w.heap.size #[.int .i64 0, .int .i64 0] 23 := Blk.new _ _ _
  have hlt := q2.lt
  have hs : 1099511627776 < x ∨ (x ≤ 1099511627776 ∧ 1099511627776 < y) := by omega
  clear q2 hn hd ho
  rcases hs with o1 | ⟨o1, o2⟩
  all_goals
    go_enter Try.func10, Try.ntmps10
    go_wp2_with fail
    refine (c.out _).mono ?_
    rintro e w1 ⟨rfl, rfl⟩
    go_wp2
    refine bodyPost_ret (v := .tuple #[.agg #[.int .i64 0, .int .i64 0], .int .i64 10]) (results_cell_and rfl _ _ w.heap.size 23 #[.int .i64 0, .int .i64 0] _ _ rfl (Blk.new w #[.int .i64 0, .int .i64 0] 23).out Try.underlying23 rfl (by kernel_rfl) rfl) rfl ⟨rfl, ?_⟩
    exact ((Below.refl _ _).alloc (Nat.le_refl _) _)
theorem rof2_any (n d : Int) (w : World) (hn : In64 n) (hd : In64 d) :
    Calls Try.prog 10 #[.int .i64 n, .int .i64 d] w fun e w' => e = .returned (ofV n d) ∧ Below w.heap.size w w' := by
  by_cases h : n < 1 ∨ d < 1
  · exact rof2_arg n d w h
  · obtain ⟨g0, x0, xn, y0, yd⟩ := gcd_bd (n := n) (d := d) (by omega) (by omega)
    by_cases ho : 1099511627776 < n / Int.gcd n d ∨ 1099511627776 < d / Int.gcd n d
    · rw [ofV_over (by omega) (by omega) rfl ho]
      exact rof2_over n d _ _ _ w (by omega) (by omega) hn hd rfl rfl rfl x0 y0 xn yd g0 ho
    · rw [ofV_good (by omega) (by omega) rfl ho]
      exact rof2_good n d _ _ _ w (by omega) (by omega) hn hd rfl rfl rfl (by omega) (by omega) x0 y0 g0

/-- What is raised is n at most, just where it is below what fits. -/
theorem up_le (y num n den : Int) (hy : 0 ≤ y) (hn : 0 ≤ n) (h1 : 1 ≤ num) (h2 : 1 ≤ den) (hn2 : n ≤ 9223372036854775807) :
    (upN (y * num) den ≤ n) ↔ y ≤ n * den / num := by
  rw [Int.le_ediv_iff_mul_le (by omega)]
  generalize y * num = x
  have hm := Int.emod_nonneg x (show den ≠ 0 by omega)
  have hm2 := Int.emod_lt_of_pos x (show 0 < den by omega)
  have hd := Int.mul_ediv_add_emod x den
  rw [Int.mul_comm n]
  unfold upN
  generalize x / den = q at *
  generalize x % den = r at *
  split
  · constructor
    · intro h; have := Int.mul_le_mul_of_nonneg_left h (show 0 ≤ den by omega); omega
    · intro h
      rcases Int.lt_or_le n q with k | k
      · have := Int.mul_le_mul_of_nonneg_left (show n + 1 ≤ q by omega) (show 0 ≤ den by omega)
        rw [Int.mul_add] at this; omega
      · exact k
  · constructor
    · intro h; have := Int.mul_le_mul_of_nonneg_left h (show 0 ≤ den by omega); rw [Int.mul_add] at this; omega
    · intro h
      rcases Int.lt_or_le q n with k | k
      · omega
      · have := Int.mul_le_mul_of_nonneg_left k (show 0 ≤ den by omega); omega
/-- At the head of Fits' loop. -/
def FitAt (m : Int) (w : World) (num den : Int) (y s : Value) (wr : World) : Prop :=
  ∃ a b : Int, y = .int .i64 a ∧ s = .int .i64 b ∧ ((b = 0 ∧ a = m) ∨ ∃ k : Nat, k ≤ 40 ∧ b = ((2 ^ k : Nat) : Int) ∧ m < a + 2 * b) ∧ 0 ≤ a ∧ a ≤ m ∧ m ≤ 1099511627776 ∧ Below w.heap.size w wr ∧ Blk wr w.heap.size #[.int .i64 num, .int .i64 den] 23
set_option maxHeartbeats 1000000 in
theorem rfits_none (n num den : Int) (w : World) (h : mayB num den = false ∨ n < 0) :
    Calls Try.prog 23 #[.int .i64 n, .agg #[.int .i64 num, .int .i64 den]] w fun e w' => e = .returned (.int .i64 (fitN n num den)) ∧ Below w.heap.size w w' := by
  rw [show fitN n num den = 0 by unfold fitN; rw [if_neg]; rintro ⟨h1, h2⟩; rcases h with h | h; · rw [h] at h1; cases h1
                                 · omega]
  have c := Lib.hid (fun w => rmay_any num den w)
  have B0 := Lib.hid ((Below.refl w.heap.size w).alloc (Nat.le_refl _) (.cells #[.int .i64 num, .int .i64 den] 23))
  by_cases h0 : n < 0
  · clear h
    go_enter Try.func23, Try.ntmps23
    go_wp2_with fail
    go_ret
    exact ⟨rfl, B0.out⟩
  · have hm : mayB num den = false := by rcases h with h | h; · exact h
                                         · omega
    rw [hm] at c
    have h1 : decide (n < 0) = false := by simp; omega
    clear h hm
    go_enter Try.func23, Try.ntmps23
    go_wp2_with fail
    refine (c.out _).mono ?_
    rintro e w1 ⟨rfl, b1⟩
    go_wp2_with fail
    go_ret
    exact ⟨rfl, B0.out.trans (b1.mono (by simp))⟩
theorem upV2_test (y n num den : Int) (hm : mayB num den = true) (hy : 0 ≤ y) (hn : 0 ≤ n) (hn2 : n ≤ 9223372036854775807) :
    (∃ x : Int, upV2 y num den = .tuple #[.int .i64 x, .int .i64 0] ∧ decide (x ≤ n) = true ∧ y ≤ n * den / num) ∨ (∃ x : Int, upV2 y num den = .tuple #[.int .i64 x, .int .i64 0] ∧ decide (x ≤ n) = false ∧ n * den / num < y) ∨ (upV2 y num den = .tuple #[.int .i64 0, .int .i64 10] ∧ n * den / num < y) := by
  obtain ⟨h1, h2, h3, h4, _⟩ := may_bd hm
  have hu := up_le y num n den hy hn h1 h2 hn2
  have h0 : 0 ≤ upN (y * num) den := by
    have := Int.ediv_nonneg (Int.mul_nonneg hy (show 0 ≤ num by omega)) (show 0 ≤ den by omega)
    unfold upN; split <;> omega
  rw [upV2, hm, if_pos rfl, upV, if_neg (by omega)]
  by_cases hi : In64 (upN (y * num) den)
  · rw [ans_of _ hi]
    by_cases hle : upN (y * num) den ≤ n
    · exact .inl ⟨_, rfl, by simpa using hle, hu.1 hle⟩
    · refine .inr (.inl ⟨_, rfl, by simpa using hle, ?_⟩)
      rcases Int.lt_or_le (n * den / num) y with k | k
      · exact k
      · exact absurd (hu.2 k) hle
  · rw [ans_not _ hi]
    refine .inr (.inr ⟨rfl, ?_⟩)
    unfold In64 at hi
    rcases Int.lt_or_le (n * den / num) y with k | k
    · exact k
    · have := hu.2 k; omega
theorem fit_next (m a b y : Int) (h : (b = 0 ∧ a = m) ∨ ∃ k : Nat, k ≤ 40 ∧ b = ((2 ^ k : Nat) : Int) ∧ m < a + 2 * b) (hb : b > 0) (ham : a ≤ m) (hy : (y = a + b ∧ a + b ≤ m) ∨ (y = a ∧ m < a + b)) :
    ((b / 2 = 0 ∧ y = m) ∨ ∃ k : Nat, k ≤ 40 ∧ b / 2 = ((2 ^ k : Nat) : Int) ∧ m < y + 2 * (b / 2)) ∧ y ≤ m ∧ b / 2 < b ∧ 0 ≤ b / 2 := by
  rcases h with ⟨h1, h2⟩ | ⟨k, hk, h1, h2⟩
  · omega
  · refine ⟨?_, by omega, by omega, by omega⟩
    cases k with
    | zero => left; simp at h1; subst h1; omega
    | succ k =>
      right
      rw [Nat.pow_succ] at h1
      exact ⟨k, by omega, by omega, by omega⟩
theorem fit_bd (b : Int) (m a : Int) (h : (b = 0 ∧ a = m) ∨ ∃ k : Nat, k ≤ 40 ∧ b = ((2 ^ k : Nat) : Int) ∧ m < a + 2 * b) : 0 ≤ b ∧ b ≤ 1099511627776 := by
  rcases h with ⟨h1, h2⟩ | ⟨k, hk, h1, h2⟩
  · omega
  · have := Nat.pow_le_pow_right (n := 2) (by omega) hk
    generalize 2 ^ k = p at *
    omega
set_option maxHeartbeats 4000000 in
theorem rfits_some (n num den : Int) (w : World) (hn : In64 n) (hm : mayB num den = true) (h0 : 0 ≤ n) :
    Calls Try.prog 23 #[.int .i64 n, .agg #[.int .i64 num, .int .i64 den]] w fun e w' => e = .returned (.int .i64 (fitN n num den)) ∧ Below w.heap.size w w' := by
  rw [show fitN n num den = min (n * den / num) 1099511627776 by unfold fitN; rw [if_pos ⟨hm, h0⟩]]
  have HT := Lib.hid (fun y hy => upV2_test y n num den hm hy h0 hn.2)
  have c := Lib.hid (fun w => rmay_any num den w)
  rw [hm] at c
  obtain ⟨p1, p2, p3, p4, _⟩ := may_bd hm
  have cu := Lib.hid (fun y (hy : In64 y) w => r2up_any y num den w hy ⟨by omega, by omega⟩ ⟨by omega, by omega⟩)
  have hq0 : 0 ≤ n * den / num := Int.ediv_nonneg (Int.mul_nonneg h0 (by omega)) (by omega)
  generalize n * den / num = q at *
  have hq1 : min q 1099511627776 ≤ q := by omega
  have hq2 : min q 1099511627776 ≤ 1099511627776 := by omega
  have hq3 : 0 ≤ min q 1099511627776 := by omega
  have hq4 : ∀ y : Int, y ≤ 1099511627776 → y ≤ q → y ≤ min q 1099511627776 := by omega
  have hq5 : ∀ y : Int, q < y ∨ 1099511627776 < y → min q 1099511627776 < y := by omega
  generalize min q 1099511627776 = m at *
  have Q4 := Lib.hid hq4; have Q5 := Lib.hid hq5
  have B0 := Lib.hid ((Below.refl w.heap.size w).alloc (Nat.le_refl _) (.cells #[.int .i64 num, .int .i64 den] 23))
  have K0 := Lib.hid (Blk.new w #[.int .i64 num, .int .i64 den] 23)
  have h1 : decide (n < 0) = false := by simp; omega
  clear hq4 hq5 hm hn p1 p2 p3 p4
  go_enter Try.func23, Try.ntmps23
  go_wp2_with fail
  refine (c.out _).mono ?_
  rintro e w1 ⟨rfl, b1⟩
  have R0 := Lib.hid (K0.out.below b1 K0.out.lt)
  have B1 := Lib.hid (B0.out.trans (b1.mono (by simp)))
  clear b1
  go_wp2_with fail
  go_loopw [5, 6] (FitAt m w num den) (fun _ s _ => (intOf s).toNat)
  case atStart => exact ⟨0, 1099511627776, rfl, rfl, .inr ⟨40, by omega, rfl, by omega⟩, by omega, hq3, hq2, B1.out, R0.out⟩
  case round =>
    obtain ⟨a, b, rfl, rfl, hab, ha0, ham, hm2, bel, blk⟩ := hrel
    have hb := fit_bd b m a hab
    have HAB := Lib.hid hab; have BEL := Lib.hid bel; have BLK := Lib.hid blk
    have d0 := blk.cell 0; have d1 := blk.cell 1
    simp at d0 d1
    clear hab bel blk
    by_cases hb0 : b = 0
    · subst hb0
      go_wp2_with fail
      go_ret
      refine ⟨?_, BEL.out⟩
      rcases HAB.out with ⟨_, h2⟩ | ⟨k, hk, h2, h3⟩
      · rw [h2]; rfl
      · have := Nat.pow_pos (n := k) (show 0 < 2 by omega); generalize 2 ^ k = p at *; omega
    · have e1 : Int.tdiv b 2 = b / 2 := Int.tdiv_eq_ediv_of_nonneg (by omega)
      by_cases hgt : 1099511627776 < a + b
      · have H5 := Q5.out (a + b) (.inr hgt)
        obtain ⟨n1, n2, n3, n4⟩ := fit_next m a b a HAB.out (by omega) ham (.inr ⟨rfl, H5⟩)
        have N1 := Lib.hid n1
        clear n1 H5
        go_wp2_with fail
        go_roundw
        case rel => exact ⟨a, b / 2, rfl, rfl, N1.out, ha0, ham, hm2, BEL.out, BLK.out⟩
        case measure => simp [intOf]; omega
      · have CU := Lib.hid (fun w => cu.out (a + b) ⟨by omega, by omega⟩ w)
        have hle : a + b ≤ 1099511627776 := by omega
        rcases HT.out (a + b) (by omega) with ⟨x, hu, hx, hq⟩ | ⟨x, hu, hx, hq⟩ | ⟨hu, hq⟩
        · have H4 := Q4.out (a + b) hle hq
          obtain ⟨n1, n2, n3, n4⟩ := fit_next m a b (a + b) HAB.out (by omega) ham (.inl ⟨rfl, H4⟩)
          have N1 := Lib.hid n1
          rw [hu] at CU
          clear n1 hu
          go_wp2_with fail
          refine (CU.out _).mono ?_
          rintro e w2 ⟨rfl, b2⟩
          have BEL2 := Lib.hid (BEL.out.trans (b2.mono BEL.out.size)); have BLK2 := Lib.hid (BLK.out.below b2 BLK.out.lt)
          clear b2
          go_wp2_with fail
          go_roundw
          case rel => exact ⟨a + b, b / 2, rfl, rfl, N1.out, by omega, n2, hm2, BEL2.out, BLK2.out⟩
          case measure => simp [intOf]; omega
        · have H5 := Q5.out (a + b) (.inl hq)
          obtain ⟨n1, n2, n3, n4⟩ := fit_next m a b a HAB.out (by omega) ham (.inr ⟨rfl, H5⟩)
          have N1 := Lib.hid n1
          rw [hu] at CU
          clear n1 H5 hu
          go_wp2_with fail
          refine (CU.out _).mono ?_
          rintro e w2 ⟨rfl, b2⟩
          have BEL2 := Lib.hid (BEL.out.trans (b2.mono BEL.out.size)); have BLK2 := Lib.hid (BLK.out.below b2 BLK.out.lt)
          clear b2
          go_wp2_with fail
          go_roundw
          case rel => exact ⟨a, b / 2, rfl, rfl, N1.out, ha0, ham, hm2, BEL2.out, BLK2.out⟩
          case measure => simp [intOf]; omega
        · have H5 := Q5.out (a + b) (.inl hq)
          obtain ⟨n1, n2, n3, n4⟩ := fit_next m a b a HAB.out (by omega) ham (.inr ⟨rfl, H5⟩)
          have N1 := Lib.hid n1
          rw [hu] at CU
          clear n1 H5 hu
          go_wp2_with fail
          refine (CU.out _).mono ?_
          rintro e w2 ⟨rfl, b2⟩
          have BEL2 := Lib.hid (BEL.out.trans (b2.mono BEL.out.size)); have BLK2 := Lib.hid (BLK.out.below b2 BLK.out.lt)
          clear b2
          go_wp2_with fail
          go_roundw
          case rel => exact ⟨a, b / 2, rfl, rfl, N1.out, ha0, ham, hm2, BEL2.out, BLK2.out⟩
          case measure => simp [intOf]; omega
theorem rfits_any (n num den : Int) (w : World) (hn : In64 n) :
    Calls Try.prog 23 #[.int .i64 n, .agg #[.int .i64 num, .int .i64 den]] w fun e w' => e = .returned (.int .i64 (fitN n num den)) ∧ Below w.heap.size w w' := by
  by_cases h : mayB num den = true
  · by_cases h0 : n < 0
    · exact rfits_none n num den w (.inr h0)
    · exact rfits_some n num den w hn h (by omega)
  · exact rfits_none n num den w (.inl (by simpa using h))

end Go.Proofs.Ytdkmbbjdoonomaa
