/-
  Package rats: what each of its functions answers: allowed, May, Inverse, Down, Up.
-/
import Derived.Test.YtdbdeodcldogmaaRats
namespace Go.Proofs.Ytdbdeodcldogmaa
open Go.RowKit
set_option linter.unusedSimpArgs false
set_option linter.unusedVariables false

theorem may_iff (n d : Int) : mayB n d = true ↔ MayN n d := by simp [mayB]
/-- A rate is what Of makes of its terms: just if it may be, or is noughts. -/
theorem of_self {n d : Int} (h : MayN n d) : ofN n d = n ∧ ofD n d = d := by
  obtain ⟨h1, h2, h3, h4, h5⟩ := h
  have hn : ¬ (n < 1 ∨ d < 1) := by omega
  have e1 : n / (1 : Int) = n := Int.ediv_one n
  have e2 : d / (1 : Int) = d := Int.ediv_one d
  have ho : ¬ (1099511627776 < n ∨ 1099511627776 < d) := by omega
  simp [ofN, ofD, hn, h5, ho]
theorem of_not {n d : Int} (h : ¬ MayN n d) : (ofN n d = n ∧ ofD n d = d ∧ n = 0 ∧ d = 0) ∨ ofN n d ≠ n ∨ ofD n d ≠ d := by
  unfold ofN ofD
  by_cases hn : n < 1 ∨ d < 1
  · rw [if_pos hn, if_pos hn]; omega
  · rw [if_neg hn, if_neg hn]
    by_cases ho : 1099511627776 < n / Int.gcd n d ∨ 1099511627776 < d / Int.gcd n d
    · rw [if_pos ho, if_pos ho]; omega
    · rw [if_neg ho, if_neg ho]
      right
      rcases Classical.em (n / Int.gcd n d = n) with e | e
      · have g1 : Int.gcd n d = 1 := by
          have hd := Int.mul_ediv_cancel' (Int.gcd_dvd_left (a := n) (b := d))
          rw [e] at hd
          have hnn : n * ((Int.gcd n d : Int) - 1) = 0 := by rw [Int.mul_sub, Int.mul_one, Int.mul_comm]; omega
          rcases Int.mul_eq_zero.1 hnn with h | h <;> omega
        rw [g1] at ho
        have e1 : n / ((1 : Nat) : Int) = n := Int.ediv_one n
        have e2 : d / ((1 : Nat) : Int) = d := Int.ediv_one d
        rw [e1, e2] at ho
        exact absurd ⟨by omega, by omega, by omega, by omega, g1⟩ h
      · exact .inl e

def alN (n d : Int) : Int := if mayB n d then n else 0
def alD (n d : Int) : Int := if mayB n d then d else 0

set_option maxHeartbeats 1000000 in
theorem allowed_any (n d : Int) (w : World) (hn : In64 n) (hd : In64 d) :
    Calls Try.prog 55 #[.agg #[.int .i64 n, .int .i64 d]] w fun e w' => e = .returned (.agg #[.int .i64 (alN n d), .int .i64 (alD n d)]) ∧ Below w.heap.size w w' := by
  have c := Lib.hid (fun w => of_rat n d w hn hd)
  unfold ofV at c
  have hs : (ofN n d = n ∧ ofD n d = d ∧ alN n d = n ∧ alD n d = d) ∨ (ofN n d ≠ n ∧ alN n d = 0 ∧ alD n d = 0) ∨ (ofN n d = n ∧ ofD n d ≠ d ∧ alN n d = 0 ∧ alD n d = 0) := by
    unfold alN alD
    by_cases hm : MayN n d
    · rw [(may_iff n d).2 hm]; obtain ⟨a, b⟩ := of_self hm; exact .inl ⟨a, b, rfl, rfl⟩
    · have e : mayB n d = false := by rw [Bool.eq_false_iff]; exact fun h => hm ((may_iff n d).1 h)
      rw [e]
      rcases of_not hm with ⟨a, b, rfl, rfl⟩ | h | h
      · exact .inl ⟨a, b, rfl, rfl⟩
      · exact .inr (.inl ⟨h, rfl, rfl⟩)
      · by_cases h' : ofN n d = n
        · exact .inr (.inr ⟨h', h, rfl, rfl⟩)
        · exact .inr (.inl ⟨h', rfl, rfl⟩)
  generalize ofN n d = x at *
  generalize ofD n d = y at *
  generalize ofE n d = z at *
  have k1 : Blk ((w.alloc (.cells #[.int .i64 n, .int .i64 d] 37)).alloc (.cells #[.int .i64 0, .int .i64 0] 37)) w.heap.size #[.int .i64 n, .int .i64 d] 37 := (Blk.new _ _ _).alloc _
  have k2 : Blk ((w.alloc (.cells #[.int .i64 n, .int .i64 d] 37)).alloc (.cells #[.int .i64 0, .int .i64 0] 37)) (w.heap.size + 1) #[.int .i64 0, .int .i64 0] 37 := Blk.newAt _ _ _ (by simp)
  have b0 : Below w.heap.size w ((w.alloc (.cells #[.int .i64 n, .int .i64 d] 37)).alloc (.cells #[.int .i64 0, .int .i64 0] 37)) := ((Below.refl _ _).alloc (Nat.le_refl _) _).alloc (by simp) _
  have K1 := Lib.hid k1; have K2 := Lib.hid k2; have B0 := Lib.hid b0
  clear k1 k2 b0 hn hd
  rcases hs with ⟨e1, e2, e3, e4⟩ | ⟨e1, e3, e4⟩ | ⟨e1, e2, e3, e4⟩
  · rw [e3, e4]
    subst e1 e2
    clear e3 e4
    go_enter Try.func55, Try.ntmps55
    go_wp2_with fail
    refine (c.out _).mono ?_
    rintro e w1 ⟨rfl, bw⟩
    have q1 := K1.out.below bw K1.out.lt; have q2 := K2.out.below bw K2.out.lt
    have B1 := Lib.hid (B0.out.trans (bw.mono (by simp; omega)))
    have d0 := q1.cell 0; have d1 := q1.cell 1; have e0 := q2.cell 0; have e1 := q2.cell 1
    simp at d0 d1 e0 e1
    have f2 := q2.frozen
    have hz := q1.lt; have hz2 := q2.lt
    have Q1 := Lib.hid q1; have Q2 := Lib.hid q2
    clear q1 q2 bw
    go_wp2
    refine bodyPost_ret (v := .agg #[.int .i64 x, .int .i64 y]) (results_cell_row rfl _ _ (w.heap.size + 1) 37 #[.int .i64 x, .int .i64 y] (0, 0) _ rfl (((Q2.out.set 0 (.int .i64 x)).set 1 (.int .i64 y)).alloc _).out Try.underlying37 rfl (by kernel_rfl)) rfl ⟨by simp, ?_⟩
    exact (((B1.out.setCell (by simp) _).setCell (by simp) _).alloc (by simpa using B1.out.size) _)
  · rw [e3, e4]
    have e5 : (x == n) = false := by simp [e1]
    clear e1 e3 e4
    go_enter Try.func55, Try.ntmps55
    go_wp2_with fail
    refine (c.out _).mono ?_
    rintro e w1 ⟨rfl, bw⟩
    have q1 := K1.out.below bw K1.out.lt; have q2 := K2.out.below bw K2.out.lt
    have B1 := Lib.hid (B0.out.trans (bw.mono (by simp; omega)))
    have d0 := q1.cell 0; have d1 := q1.cell 1; have e0 := q2.cell 0; have e1 := q2.cell 1
    simp at d0 d1 e0 e1
    have f2 := q2.frozen
    have hz := q1.lt; have hz2 := q2.lt
    have Q1 := Lib.hid q1; have Q2 := Lib.hid q2
    clear q1 q2 bw
    go_wp2
    refine bodyPost_ret (v := .agg #[.int .i64 0, .int .i64 0]) (results_cell_row rfl _ _ (w.heap.size + 1) 37 #[.int .i64 0, .int .i64 0] (0, 0) _ rfl (((Q2.out.set 0 (.int .i64 0)).set 1 (.int .i64 0)).alloc _).out Try.underlying37 rfl (by kernel_rfl)) rfl ⟨by simp, ?_⟩
    exact (((B1.out.setCell (by simp) _).setCell (by simp) _).alloc (by simpa using B1.out.size) _)
  · rw [e3, e4]
    subst e1
    have e5 : (y == d) = false := by simp [e2]
    clear e2 e3 e4
    go_enter Try.func55, Try.ntmps55
    go_wp2_with fail
    refine (c.out _).mono ?_
    rintro e w1 ⟨rfl, bw⟩
    have q1 := K1.out.below bw K1.out.lt; have q2 := K2.out.below bw K2.out.lt
    have B1 := Lib.hid (B0.out.trans (bw.mono (by simp; omega)))
    have d0 := q1.cell 0; have d1 := q1.cell 1; have e0 := q2.cell 0; have e1 := q2.cell 1
    simp at d0 d1 e0 e1
    have f2 := q2.frozen
    have hz := q1.lt; have hz2 := q2.lt
    have Q1 := Lib.hid q1; have Q2 := Lib.hid q2
    clear q1 q2 bw
    go_wp2
    refine bodyPost_ret (v := .agg #[.int .i64 0, .int .i64 0]) (results_cell_row rfl _ _ (w.heap.size + 1) 37 #[.int .i64 0, .int .i64 0] (0, 0) _ rfl (((Q2.out.set 0 (.int .i64 0)).set 1 (.int .i64 0)).alloc _).out Try.underlying37 rfl (by kernel_rfl)) rfl ⟨by simp, ?_⟩
    exact (((B1.out.setCell (by simp) _).setCell (by simp) _).alloc (by simpa using B1.out.size) _)

theorem al_cases (n d : Int) : (mayB n d = true ∧ alN n d = n ∧ alD n d = d ∧ 1 ≤ n ∧ 1 ≤ d ∧ n ≤ 1099511627776 ∧ d ≤ 1099511627776) ∨ (mayB n d = false ∧ alN n d = 0 ∧ alD n d = 0) := by
  unfold alN alD
  by_cases hm : MayN n d
  · rw [(may_iff n d).2 hm]; exact .inl ⟨rfl, rfl, rfl, hm.1, hm.2.1, hm.2.2.1, hm.2.2.2.1⟩
  · have e : mayB n d = false := by rw [Bool.eq_false_iff]; exact fun h => hm ((may_iff n d).1 h)
    rw [e]; exact .inr ⟨rfl, rfl, rfl⟩

set_option maxHeartbeats 1000000 in
theorem may_any (n d : Int) (w : World) (hn : In64 n) (hd : In64 d) :
    Calls Try.prog 35 #[.agg #[.int .i64 n, .int .i64 d]] w fun e w' => e = .returned (.bool (mayB n d)) ∧ Below w.heap.size w w' := by
  have c := Lib.hid (fun w => allowed_any n d w hn hd)
  have B0 := Lib.hid ((Below.refl w.heap.size w).alloc (Nat.le_refl _) (.cells #[.int .i64 n, .int .i64 d] 37))
  clear hn hd
  rcases al_cases n d with ⟨hm, h1, h2, h3, h4, h5, h6⟩ | ⟨hm, h1, h2⟩
  · rw [h1, h2] at c
    rw [hm]
    have e1 : (n == 0) = false := by simp; omega
    clear h1 h2 h4 h5 h6 h3
    go_enter Try.func35, Try.ntmps35
    go_wp2_with fail
    refine (c.out _).mono ?_
    rintro e w1 ⟨rfl, b1⟩
    go_wp2_with fail
    go_ret
    exact ⟨rfl, B0.out.trans (b1.mono (by simp))⟩
  · rw [h1, h2] at c
    rw [hm]
    clear h1 h2
    go_enter Try.func35, Try.ntmps35
    go_wp2_with fail
    refine (c.out _).mono ?_
    rintro e w1 ⟨rfl, b1⟩
    go_wp2_with fail
    go_ret
    exact ⟨rfl, B0.out.trans (b1.mono (by simp))⟩



end Go.Proofs.Ytdbdeodcldogmaa

/-
  Package rats: what each of its functions answers: Fits, Compare.
-/
namespace Go.Proofs.Ytdbdeodcldogmaa
open Go.RowKit
set_option linter.unusedSimpArgs false
set_option linter.unusedVariables false

theorem mayB_swap (n d : Int) : mayB d n = mayB n d := by
  unfold mayB
  rw [decide_eq_decide]
  unfold MayN
  rw [Int.gcd_comm d n]
  constructor <;> (intro h; omega)
/-- What fits. -/
def fitN (n num den : Int) : Int := if mayB num den = true ∧ 0 ≤ n then min (n * den / num) 1099511627776 else 0


def cmpI (x y : Int) : Int := if x < y then -1 else if y < x then 1 else 0
def orI (p q : Int) : Int := if p = 0 then q else p
theorem isnan_any (x : Int) (w : World) :
    Calls Try.prog 71 #[.int .u64 x] w fun e w' => e = .returned (.bool false) ∧ w' = w := by
  have hx : (x == x) = true := by simp
  go_enter Try.func71, Try.ntmps71
  go_wp2
  go_ret
  exact ⟨rfl, rfl⟩
theorem compare_u64 (x y : Int) (w : World) :
    Calls Try.prog 58 #[.int .u64 x, .int .u64 y] w fun e w' => e = .returned (.int .i64 (cmpI x y)) ∧ w' = w := by
  have c1 := Lib.hid (fun w => isnan_any x w)
  have c2 := Lib.hid (fun w => isnan_any y w)
  rcases Int.lt_trichotomy x y with h | h | h
  · rw [show cmpI x y = -1 by unfold cmpI; rw [if_pos h]]
    go_enter Try.func58, Try.ntmps58
    go_wp2_with fail
    refine (c1.out _).mono ?_
    rintro e w1 ⟨rfl, rfl⟩
    go_wp2_with fail
    refine (c2.out _).mono ?_
    rintro e w1 ⟨rfl, rfl⟩
    go_wp2_with fail
    go_ret
    exact ⟨rfl, rfl⟩
  · rw [show cmpI x y = 0 by unfold cmpI; rw [if_neg (by omega), if_neg (by omega)]]
    subst h
    go_enter Try.func58, Try.ntmps58
    go_wp2_with fail
    refine (c1.out _).mono ?_
    rintro e w1 ⟨rfl, rfl⟩
    go_wp2_with fail
    refine (c2.out _).mono ?_
    rintro e w1 ⟨rfl, rfl⟩
    go_wp2_with fail
    go_ret
    exact ⟨rfl, rfl⟩
  · rw [show cmpI x y = 1 by unfold cmpI; rw [if_neg (by omega), if_pos h]]
    have h2 : ¬ x < y := by omega
    go_enter Try.func58, Try.ntmps58
    go_wp2_with fail
    refine (c1.out _).mono ?_
    rintro e w1 ⟨rfl, rfl⟩
    go_wp2_with fail
    refine (c2.out _).mono ?_
    rintro e w1 ⟨rfl, rfl⟩
    go_wp2_with fail
    go_ret
    exact ⟨rfl, rfl⟩

theorem or_two (b cap : Nat) (p q : Int) (w : World) (hlt : b < w.heap.size) (h0 : w.cell? ⟨b, 0, none⟩ = some (.int .i64 p)) (h1 : w.cell? ⟨b, 1, none⟩ = some (.int .i64 q)) :
    Calls Try.prog 57 #[.slice (some ⟨b, 0, none⟩) 2 cap] w fun e w' => e = .returned (.int .i64 (orI p q)) ∧ w' = w := by
  unfold orI
  by_cases hp : p = 0
  · rw [if_pos hp]
    subst hp
    by_cases hq : q = 0
    · subst hq
      go_enter Try.func57, Try.ntmps57
      go_wp2
      refine wp_loop_rounds 3 ?_
      rw [rounds_succ]; go_wp2
      rw [rounds_succ]; go_wp2
      rw [rounds_succ]; go_wp2
      go_ret
      exact ⟨rfl, rfl⟩
    · have hb : (q == 0) = false := by simp [hq]
      go_enter Try.func57, Try.ntmps57
      go_wp2
      refine wp_loop_rounds 2 ?_
      rw [rounds_succ]; go_wp2
      rw [rounds_succ]; go_wp2
      go_ret
      exact ⟨rfl, rfl⟩
  · rw [if_neg hp]
    have hb : (p == 0) = false := by simp [hp]
    go_enter Try.func57, Try.ntmps57
    go_wp2
    refine wp_loop_rounds 1 ?_
    rw [rounds_succ]; go_wp2
    go_ret
    exact ⟨rfl, rfl⟩

end Go.Proofs.Ytdbdeodcldogmaa

/-
  Package rats: what Compare answers.
-/
namespace Go.Proofs.Ytdbdeodcldogmaa
open Go.RowKit
set_option linter.unusedSimpArgs false
set_option linter.unusedVariables false

theorem cmp_words (x y : Int) : orI (cmpI (x / 18446744073709551616) (y / 18446744073709551616)) (cmpI (x % 18446744073709551616) (y % 18446744073709551616)) = cmpI x y := by
  unfold orI cmpI
  split <;> (repeat' split at *) <;> omega
/-- What Compare answers. -/
def cmpR (an ad bn bd : Int) : Int := if mayB an ad = true ∧ mayB bn bd = true then cmpI (an * bd) (bn * ad) else 0
theorem may_bd {n d : Int} (h : mayB n d = true) : 1 ≤ n ∧ 1 ≤ d ∧ n ≤ 1099511627776 ∧ d ≤ 1099511627776 ∧ Int.gcd n d = 1 := (may_iff n d).1 h

set_option maxHeartbeats 1000000 in
theorem compare_any (an ad bn bd : Int) (w : World) (h1 : In64 an) (h2 : In64 ad) (h3 : In64 bn) (h4 : In64 bd) :
    Calls Try.prog 36 #[.agg #[.int .i64 an, .int .i64 ad], .agg #[.int .i64 bn, .int .i64 bd]] w fun e w' => e = .returned (.int .i64 (cmpR an ad bn bd)) ∧ Below w.heap.size w w' := by
  have c1 := Lib.hid (fun w => may_any an ad w h1 h2)
  have c2 := Lib.hid (fun w => may_any bn bd w h3 h4)
  have k1 : Blk ((w.alloc (.cells #[.int .i64 an, .int .i64 ad] 37)).alloc (.cells #[.int .i64 bn, .int .i64 bd] 37)) w.heap.size #[.int .i64 an, .int .i64 ad] 37 := (Blk.new _ _ _).alloc _
  have k2 : Blk ((w.alloc (.cells #[.int .i64 an, .int .i64 ad] 37)).alloc (.cells #[.int .i64 bn, .int .i64 bd] 37)) (w.heap.size + 1) #[.int .i64 bn, .int .i64 bd] 37 := Blk.newAt _ _ _ (by simp)
  have b0 : Below w.heap.size w ((w.alloc (.cells #[.int .i64 an, .int .i64 ad] 37)).alloc (.cells #[.int .i64 bn, .int .i64 bd] 37)) := ((Below.refl _ _).alloc (Nat.le_refl _) _).alloc (by simp) _
  have K1 := Lib.hid k1; have K2 := Lib.hid k2; have B0 := Lib.hid b0
  clear k1 k2 b0 h1 h2 h3 h4
  by_cases hm : mayB an ad = true
  · by_cases hm2 : mayB bn bd = true
    · rw [show cmpR an ad bn bd = cmpI (an * bd) (bn * ad) by unfold cmpR; rw [if_pos ⟨hm, hm2⟩], ← cmp_words]
      obtain ⟨p1, p2, p3, p4, _⟩ := may_bd hm
      obtain ⟨q1, q2, q3, q4, _⟩ := may_bd hm2
      rw [hm] at c1; rw [hm2] at c2
      have u1 : IntKind.u64.wrap an = an := u64_of _ ⟨by omega, by omega⟩
      have u2 : IntKind.u64.wrap ad = ad := u64_of _ ⟨by omega, by omega⟩
      have u3 : IntKind.u64.wrap bn = bn := u64_of _ ⟨by omega, by omega⟩
      have u4 : IntKind.u64.wrap bd = bd := u64_of _ ⟨by omega, by omega⟩
      have cm1 := Lib.hid (fun w => mul64_any an bd w ⟨by omega, by omega⟩ ⟨by omega, by omega⟩)
      have cm2 := Lib.hid (fun w => mul64_any bn ad w ⟨by omega, by omega⟩ ⟨by omega, by omega⟩)
      have cc := Lib.hid compare_u64
      generalize an * bd = x at *
      generalize bn * ad = y at *
      clear hm hm2 p1 p2 p3 p4 q1 q2 q3 q4
      go_enter Try.func36, Try.ntmps36
      go_wp2_with fail
      refine (c1.out _).mono ?_
      rintro e w1 ⟨rfl, b1⟩
      have B1 := Lib.hid (B0.out.trans (b1.mono (by simp; omega)))
      have r1 := K1.out.below b1 K1.out.lt; have r2 := K2.out.below b1 K2.out.lt
      have d0 := r1.cell 0; have d1 := r1.cell 1; have e0 := r2.cell 0; have e1 := r2.cell 1
      simp at d0 d1 e0 e1
      have R1 := Lib.hid r1; have R2 := Lib.hid r2
      clear r1 r2 b1
      go_wp2_with fail
      refine (c2.out _).mono ?_
      rintro e w2 ⟨rfl, b2⟩
      have B2 := Lib.hid (B1.out.trans (b2.mono B1.out.size))
      have r1 := R1.out.below b2 R1.out.lt; have r2 := R2.out.below b2 R2.out.lt
      clear d0 d1 e0 e1
      have d0 := r1.cell 0; have d1 := r1.cell 1; have e0 := r2.cell 0; have e1 := r2.cell 1
      simp at d0 d1 e0 e1
      clear r1 r2 b2
      go_wp2_with fail
      refine (cm1.out _).mono ?_
      rintro e w2 ⟨rfl, rfl⟩
      go_wp2_with fail
      refine (cm2.out _).mono ?_
      rintro e w2 ⟨rfl, rfl⟩
      go_wp2_with fail
      refine (cc.out _ _ _).mono ?_
      rintro e w2 ⟨rfl, rfl⟩
      go_wp2_with fail
      refine (cc.out _ _ _).mono ?_
      rintro e w2 ⟨rfl, rfl⟩
      go_wp2_with fail
      refine (or_two w2.heap.size _ (cmpI (x / 18446744073709551616) (y / 18446744073709551616)) (cmpI (x % 18446744073709551616) (y % 18446744073709551616)) _ (by simp) (by simp) (by simp)).mono ?_
      rintro e w2 ⟨rfl, rfl⟩
      go_wp2_with fail
      go_ret
      exact ⟨rfl, B2.out.alloc B2.out.size _⟩
    · rw [show cmpR an ad bn bd = 0 by unfold cmpR; rw [if_neg (by simp [hm2])]]
      simp only [Bool.not_eq_true] at hm2
      rw [hm] at c1; rw [hm2] at c2
      clear hm hm2
      go_enter Try.func36, Try.ntmps36
      go_wp2_with fail
      refine (c1.out _).mono ?_
      rintro e w1 ⟨rfl, b1⟩
      have B1 := Lib.hid (B0.out.trans (b1.mono (by simp; omega)))
      have r2 := K2.out.below b1 K2.out.lt
      have e0 := r2.cell 0; have e1 := r2.cell 1
      simp at e0 e1
      clear r2 b1
      go_wp2_with fail
      refine (c2.out _).mono ?_
      rintro e w2 ⟨rfl, b2⟩
      go_wp2_with fail
      go_ret
      exact ⟨rfl, B1.out.trans (b2.mono B1.out.size)⟩
  · rw [show cmpR an ad bn bd = 0 by unfold cmpR; rw [if_neg (by simp [hm])]]
    simp only [Bool.not_eq_true] at hm
    rw [hm] at c1
    clear hm
    go_enter Try.func36, Try.ntmps36
    go_wp2_with fail
    refine (c1.out _).mono ?_
    rintro e w1 ⟨rfl, b1⟩
    go_wp2_with fail
    go_ret
    exact ⟨rfl, B0.out.trans (b1.mono (by simp; omega))⟩

end Go.Proofs.Ytdbdeodcldogmaa
