/-
  Package rats: what each of its functions answers: Fits, Compare.
-/
import Derived.Test.YtdkmbbjdoonomaaRats2
namespace Go.Proofs.Ytdkmbbjdoonomaa
open Go.RowKit
set_option linter.unusedSimpArgs false
set_option linter.unusedVariables false

theorem mayB_swap (n d : Int) : mayB d n = mayB n d := by
  unfold mayB
  rw [decide_eq_decide]
  unfold MayN
  rw [Int.gcd_comm d n]
  constructor <;> (intro h; omega)
/-- What fits. -/
def fitN (n num den : Int) : Int := if mayB num den = true ∧ 0 ≤ n then min (n * den / num) 1099511627776 else 0

set_option maxHeartbeats 1000000 in
theorem fits_any (n num den : Int) (w : World) (ha : In64 n) (hn : In64 num) (hd : In64 den) :
    Calls Try.prog 22 #[.int .i64 n, .agg #[.int .i64 num, .int .i64 den]] w fun e w' => e = .returned (.int .i64 (fitN n num den)) ∧ Below w.heap.size w w' := by
  have c1 := Lib.hid (fun w => inverse_any num den w hn hd)
  have B0 := Lib.hid ((Below.refl w.heap.size w).alloc (Nat.le_refl _) (.cells #[.int .i64 num, .int .i64 den] 23))
  have c2 := Lib.hid (fun w => rdown_rat n (alD num den) (alN num den) w ha (by unfold alD; split <;> first | exact hd | decide) (by unfold alN; split <;> first | exact hn | decide))
  have hs : (downV2 n (alD num den) (alN num den) = .tuple #[.int .i64 0, .int .i64 1] ∧ fitN n num den = 0) ∨
      (∃ q : Int, downV2 n (alD num den) (alN num den) = .tuple #[.int .i64 q, .int .i64 0] ∧ fitN n num den = min q 1099511627776) ∨
      (downV2 n (alD num den) (alN num den) = .tuple #[.int .i64 0, .int .i64 10] ∧ fitN n num den = 1099511627776) := by
    unfold downV2 fitN
    rcases al_cases num den with ⟨hm, h1, h2, h3, h4, h5, h6⟩ | ⟨hm, h1, h2⟩
    · rw [h1, h2, mayB_swap, hm, if_pos rfl]
      by_cases h0 : n < 0
      · exact .inl ⟨by rw [downV, if_pos (.inl h0)], by rw [if_neg (by omega)]⟩
      · rw [downV, if_neg (by omega), if_pos ⟨rfl, by omega⟩]
        by_cases hq : In64 (n * den / num)
        · exact .inr (.inl ⟨_, ans_of _ hq, rfl⟩)
        · refine .inr (.inr ⟨ans_not _ hq, ?_⟩)
          have : 0 ≤ n * den / num := Int.ediv_nonneg (Int.mul_nonneg (by omega) (by omega)) (by omega)
          unfold In64 at hq
          omega
    · rw [h1, h2, hm]
      exact .inl ⟨rfl, by simp⟩
  generalize alD num den = x at *
  generalize alN num den = y at *
  clear ha hn hd
  rcases hs with ⟨e1, e2⟩ | ⟨q, e1, e2⟩ | ⟨e1, e2⟩
  all_goals
    rw [e1] at c2
    rw [e2]
    clear e1 e2
    go_enter Try.func22, Try.ntmps22
    go_wp2_with fail
    refine (c1.out _).mono ?_
    rintro e w1 ⟨rfl, b1⟩
    go_wp2_with fail
    refine (c2.out _).mono ?_
    rintro e w2 ⟨rfl, b2⟩
    go_wp2_with fail
    go_ret
    exact ⟨rfl, B0.out.trans ((b1.mono (by simp)).trans (b2.mono (by have := b1.size; simp at this; omega)))⟩

def cmpI (x y : Int) : Int := if x < y then -1 else if y < x then 1 else 0
theorem isnan_any (x : Int) (w : World) :
    Calls Try.prog 37 #[.int .u64 x] w fun e w' => e = .returned (.bool false) ∧ w' = w := by
  have hx : (x == x) = true := by simp
  go_enter Try.func37, Try.ntmps37
  go_wp2
  go_ret
  exact ⟨rfl, rfl⟩
theorem compare_u64 (x y : Int) (w : World) :
    Calls Try.prog 29 #[.int .u64 x, .int .u64 y] w fun e w' => e = .returned (.int .i64 (cmpI x y)) ∧ w' = w := by
  have c1 := Lib.hid (fun w => isnan_any x w)
  have c2 := Lib.hid (fun w => isnan_any y w)
  rcases Int.lt_trichotomy x y with h | h | h
  · rw [show cmpI x y = -1 by unfold cmpI; rw [if_pos h]]
    go_enter Try.func29, Try.ntmps29
    go_wp2_with fail
    refine (c1.out _).mono ?_
    rintro e w1 ⟨rfl, rfl⟩
    go_wp2_with fail
    refine (c2.out _).mono ?_
    rintro e w1 ⟨rfl, rfl⟩
    go_wp2_with fail
    go_ret
    exact ⟨rfl, rfl⟩
  · rw [show cmpI x y = 0 by unfold cmpI; rw [if_neg (by omega), if_neg (by omega)]]
    subst h
    go_enter Try.func29, Try.ntmps29
    go_wp2_with fail
    refine (c1.out _).mono ?_
    rintro e w1 ⟨rfl, rfl⟩
    go_wp2_with fail
    refine (c2.out _).mono ?_
    rintro e w1 ⟨rfl, rfl⟩
    go_wp2_with fail
    go_ret
    exact ⟨rfl, rfl⟩
  · rw [show cmpI x y = 1 by unfold cmpI; rw [if_neg (by omega), if_pos h]]
    have h2 : ¬ x < y := by omega
    go_enter Try.func29, Try.ntmps29
    go_wp2_with fail
    refine (c1.out _).mono ?_
    rintro e w1 ⟨rfl, rfl⟩
    go_wp2_with fail
    refine (c2.out _).mono ?_
    rintro e w1 ⟨rfl, rfl⟩
    go_wp2_with fail
    go_ret
    exact ⟨rfl, rfl⟩

def orI (p q : Int) : Int := if p = 0 then q else p
theorem or_two (b cap : Nat) (p q : Int) (w : World) (hlt : b < w.heap.size) (h0 : w.cell? ⟨b, 0, none⟩ = some (.int .i64 p)) (h1 : w.cell? ⟨b, 1, none⟩ = some (.int .i64 q)) :
    Calls Try.prog 28 #[.slice (some ⟨b, 0, none⟩) 2 cap] w fun e w' => e = .returned (.int .i64 (orI p q)) ∧ w' = w := by
  unfold orI
  by_cases hp : p = 0
  · rw [if_pos hp]
    subst hp
    by_cases hq : q = 0
    · subst hq
      go_enter Try.func28, Try.ntmps28
      go_wp2
      refine wp_loop_rounds 3 ?_
      rw [rounds_succ]; go_wp2
      rw [rounds_succ]; go_wp2
      rw [rounds_succ]; go_wp2
      go_ret
      exact ⟨rfl, rfl⟩
    · have hb : (q == 0) = false := by simp [hq]
      go_enter Try.func28, Try.ntmps28
      go_wp2
      refine wp_loop_rounds 2 ?_
      rw [rounds_succ]; go_wp2
      rw [rounds_succ]; go_wp2
      go_ret
      exact ⟨rfl, rfl⟩
  · rw [if_neg hp]
    have hb : (p == 0) = false := by simp [hp]
    go_enter Try.func28, Try.ntmps28
    go_wp2
    refine wp_loop_rounds 1 ?_
    rw [rounds_succ]; go_wp2
    go_ret
    exact ⟨rfl, rfl⟩

end Go.Proofs.Ytdkmbbjdoonomaa
