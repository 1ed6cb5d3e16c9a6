/-
  Package rats: what each of its functions answers.
-/
import Derived.Test.YtdbdeodcldogmaaRef02b
import Derived.ScopeJumps
import Derived.WalkMore
import Derived.LoopN
namespace Go.Proofs.Ytdbdeodcldogmaa
open Go.RowKit
set_option linter.unusedSimpArgs false
set_option linter.unusedVariables false

theorem gcd_mod (a b : Int) : Int.gcd b (a % b) = Int.gcd a b := by
  have := gcd_step a b (a / b)
  rw [show a - b * (a / b) = a % b by have := Int.mul_ediv_add_emod a b; omega] at this
  rw [Int.gcd_comm, this]

set_option maxHeartbeats 1000000 in
theorem divisor_any (a b : Int) (w : World) (ha : In64 a) (hb : In64 b) (h1 : 1 ≤ a) (h2 : 1 ≤ b) :
    Calls Try.prog 85 #[.int .i64 a, .int .i64 b] w fun e w' => e = .returned (.int .i64 (Int.gcd a b)) ∧ Below w.heap.size w w' := by
  have HA := Lib.hid ha; have HB := Lib.hid hb
  clear ha hb
  go_enter Try.func85, Try.ntmps85
  go_wp2
  refine wp_scope_jumps 0 (fun a' w' => Below w.heap.size w w' ∧ ∃ (x y : Int) (u2 u3 u4 u5 u6 u7 u8 u9 u10 u11 : Value), a' = { tmps := #[.int .i64 x, .int .i64 y, u2, u3, u4, u5, u6, u7, u8, u9, u10, u11], defers := [] } ∧ 1 ≤ x ∧ 0 ≤ y ∧ x ≤ 9223372036854775807 ∧ y ≤ 9223372036854775807 ∧ Int.gcd x y = Int.gcd a b) (fun a' _ => (intOf (a'.tmps.getD 1 undef)).toNat) rfl ?_ ?_
  · by_cases hb : b = 0
    · omega
    · have hnb : (b == 0) = false := by simp; omega
      have HG := Lib.hid (gcd_mod a b)
      have HLT := Lib.hid (Int.emod_lt_of_pos a (show 0 < b by omega)); have HGE := Lib.hid (Int.emod_nonneg a hb)
      go_wp2
      go_step3
      go_wp2
      go_region
      all_goals
        go_wp2
        go_step3
        exact ⟨rfl, (Below.refl _ _).drew, b, _, _, _, _, _, _, _, _, _, _, _, rfl, h2, HGE.out, HB.out.2, by have := HLT.out; have := HB.out.2; omega, HG.out⟩
  · rintro a' w' ⟨bel, x, y, u2, u3, u4, u5, u6, u7, u8, u9, u10, u11, rfl, hx, hy, hx2, hy2, hg⟩
    have HG := Lib.hid hg
    clear hg
    by_cases hb : y = 0
    · subst hb
      have e : ((Int.gcd x 0 : Nat) : Int) = x := by rw [Int.gcd_zero_right]; omega
      have hnn : ((0 : Int) == 0) = true := rfl
      go_wp2
      simp only [Exit.jump]
      go_ret
      exact ⟨by rw [← HG.out, e]; rfl, bel⟩
    · have hnb : (y == 0) = false := by simp; omega
      have HS := Lib.hid (gcd_mod x y)
      have HLT := Lib.hid (Int.emod_lt_of_pos x (show 0 < y by omega)); have HGE := Lib.hid (Int.emod_nonneg x hb)
      go_wp2
      go_region
      all_goals
        go_wp2
        go_step3
        refine ⟨rfl, ⟨bel.drew, y, _, _, _, _, _, _, _, _, _, _, _, rfl, by omega, HGE.out, hy2, by have := HLT.out; omega, by rw [HS.out]; exact HG.out⟩, ?_⟩
        have := HLT.out; have := HGE.out
        simp [intOf]; omega

/-- What Of answers: the rate, or noughts and what is wrong. -/
def ofN (n d : Int) : Int := if n < 1 ∨ d < 1 then 0 else if 1099511627776 < n / Int.gcd n d ∨ 1099511627776 < d / Int.gcd n d then 0 else n / Int.gcd n d
def ofD (n d : Int) : Int := if n < 1 ∨ d < 1 then 0 else if 1099511627776 < n / Int.gcd n d ∨ 1099511627776 < d / Int.gcd n d then 0 else d / Int.gcd n d
def ofE (n d : Int) : Int := if n < 1 ∨ d < 1 then 1 else if 1099511627776 < n / Int.gcd n d ∨ 1099511627776 < d / Int.gcd n d then 10 else 0
def ofV (n d : Int) : Value := .tuple #[.agg #[.int .i64 (ofN n d), .int .i64 (ofD n d)], .int .i64 (ofE n d)]
theorem ofV_arg {n d : Int} (h : n < 1 ∨ d < 1) : ofV n d = .tuple #[.agg #[.int .i64 0, .int .i64 0], .int .i64 1] := by simp [ofV, ofN, ofD, ofE, h]
theorem ofV_over {n d g : Int} (h : 1 ≤ n) (h2 : 1 ≤ d) (hg : (Int.gcd n d : Int) = g) (ho : 1099511627776 < n / g ∨ 1099511627776 < d / g) : ofV n d = .tuple #[.agg #[.int .i64 0, .int .i64 0], .int .i64 10] := by
  have hn : ¬ (n < 1 ∨ d < 1) := by omega
  subst hg
  simp [ofV, ofN, ofD, ofE, hn, ho]
theorem ofV_good {n d g : Int} (h : 1 ≤ n) (h2 : 1 ≤ d) (hg : (Int.gcd n d : Int) = g) (ho : ¬ (1099511627776 < n / g ∨ 1099511627776 < d / g)) : ofV n d = .tuple #[.agg #[.int .i64 (n / g), .int .i64 (d / g)], .int .i64 0] := by
  have hn : ¬ (n < 1 ∨ d < 1) := by omega
  subst hg
  simp [ofV, ofN, ofD, ofE, hn, ho]
theorem gcd_bd {n d : Int} (h : 1 ≤ n) (hd : 1 ≤ d) : (1 : Int) ≤ Int.gcd n d ∧ 0 ≤ n / Int.gcd n d ∧ n / Int.gcd n d ≤ n ∧ 0 ≤ d / Int.gcd n d ∧ d / Int.gcd n d ≤ d := by
  have h1 : 0 < Int.gcd n d := Int.gcd_pos_of_ne_zero_left _ (by omega)
  exact ⟨by omega, Int.ediv_nonneg (by omega) (by omega), Int.ediv_le_self _ (by omega), Int.ediv_nonneg (by omega) (by omega), Int.ediv_le_self _ (by omega)⟩

set_option maxHeartbeats 1000000 in
theorem of_arg (n d : Int) (w : World) (h : n < 1 ∨ d < 1) :
    Calls Try.prog 70 #[.int .i64 n, .int .i64 d] w fun e w' => e = .returned (ofV n d) ∧ Below w.heap.size w w' := by
  rw [ofV_arg h]
  have q2 : Blk (w.alloc (.cells #[.int .i64 0, .int .i64 0] 37)) w.heap.size #[.int .i64 0, .int .i64 0] 37 := Blk.new _ _ _
  have hlt := q2.lt
  clear q2
  have hs : n < 1 ∨ (1 ≤ n ∧ d < 1) := by omega
  clear h
  rcases hs with h1 | ⟨h1, h2⟩
  all_goals
    go_enter Try.func70, Try.ntmps70
    go_wp2
    refine bodyPost_ret (v := .tuple #[.agg #[.int .i64 0, .int .i64 0], .int .i64 1]) (results_cell_and rfl _ _ w.heap.size 37 #[.int .i64 0, .int .i64 0] _ _ rfl (Blk.new w #[.int .i64 0, .int .i64 0] 37).out Try.underlying37 rfl (by kernel_rfl) rfl) rfl ⟨rfl, ?_⟩
    exact ((Below.refl _ _).alloc (Nat.le_refl _) _)
set_option maxHeartbeats 1000000 in
theorem of_two (n d g x y : Int) (w : World) (h1 : 1 ≤ n) (h2 : 1 ≤ d) (hn : In64 n) (hd : In64 d) (hg : (Int.gcd n d : Int) = g) (hx : n / g = x) (hy : d / g = y) (hx0 : 0 ≤ x) (hy0 : 0 ≤ y) (hxn : x ≤ n) (hyd : y ≤ d) (hg0 : 1 ≤ g) :
    Calls Try.prog 70 #[.int .i64 n, .int .i64 d] w fun e w' => e = .returned (if 1099511627776 < x ∨ 1099511627776 < y then .tuple #[.agg #[.int .i64 0, .int .i64 0], .int .i64 10] else .tuple #[.agg #[.int .i64 x, .int .i64 y], .int .i64 0]) ∧ Below w.heap.size w w' := by
  have c := Lib.hid (fun w => divisor_any n d w hn hd h1 h2)
  rw [hg] at c
  have e1 : Int.tdiv n g = x := by rw [← hx]; exact Int.tdiv_eq_ediv_of_nonneg (by omega)
  have e2 : Int.tdiv d g = y := by rw [← hy]; exact Int.tdiv_eq_ediv_of_nonneg (by omega)
  have ew1 : wrap64 x = x := wrap64_of x ⟨by omega, by have := hn.2; omega⟩
  have ew2 : wrap64 y = y := wrap64_of y ⟨by omega, by have := hd.2; omega⟩
  have q2 : Blk (w.alloc (.cells #[.int .i64 0, .int .i64 0] 37)) w.heap.size #[.int .i64 0, .int .i64 0] 37 := Blk.new _ _ _
  have b0 : Below w.heap.size w (w.alloc (.cells #[.int .i64 0, .int .i64 0] 37)) := (Below.refl _ _).alloc (Nat.le_refl _) _
  have Q2 := Lib.hid q2; have B0 := Lib.hid b0
  have hs : 1099511627776 < x ∨ (x ≤ 1099511627776 ∧ 1099511627776 < y) ∨ (x ≤ 1099511627776 ∧ y ≤ 1099511627776) := by omega
  clear q2 b0 hn hd
  rcases hs with o1 | ⟨o1, o2⟩ | ⟨o1, o2⟩
  · rw [if_pos (.inl o1)]
    go_enter Try.func70, Try.ntmps70
    go_wp2_with fail
    refine (c.out _).mono ?_
    rintro e w1 ⟨rfl, bw⟩
    have k1 := Q2.out.below bw Q2.out.lt
    have B1 := Lib.hid (B0.out.trans (bw.mono (by simp)))
    have d0 := k1.cell 0; have d1 := k1.cell 1
    simp at d0 d1
    have f1 := k1.frozen
    have hz := k1.lt
    have K1 := Lib.hid k1
    clear k1 bw
    go_wp2
    go_region
    all_goals
      go_wp2
      refine bodyPost_ret (v := .tuple #[.agg #[.int .i64 0, .int .i64 0], .int .i64 10]) (results_cell_and rfl _ _ w.heap.size 37 #[.int .i64 0, .int .i64 0] _ _ rfl (Blk.drew (((K1.out.set 0 (.int .i64 0)).set 1 (.int .i64 0)).alloc _)).out Try.underlying37 rfl (by kernel_rfl) rfl) rfl ⟨rfl, ?_⟩
      first
      | exact ((((B1.out.alloc B1.out.size _).drew).setCell (Nat.le_refl _) _).setCell (Nat.le_refl _) _)
      | exact ((((B1.out.setCell (Nat.le_refl _) _).setCell (Nat.le_refl _) _).alloc (by simpa using B1.out.size) _).drew)
  · rw [if_pos (.inr o2)]
    go_enter Try.func70, Try.ntmps70
    go_wp2_with fail
    refine (c.out _).mono ?_
    rintro e w1 ⟨rfl, bw⟩
    have k1 := Q2.out.below bw Q2.out.lt
    have B1 := Lib.hid (B0.out.trans (bw.mono (by simp)))
    have d0 := k1.cell 0; have d1 := k1.cell 1
    simp at d0 d1
    have f1 := k1.frozen
    have hz := k1.lt
    have K1 := Lib.hid k1
    clear k1 bw
    go_wp2
    go_region
    all_goals
      go_wp2
      refine bodyPost_ret (v := .tuple #[.agg #[.int .i64 0, .int .i64 0], .int .i64 10]) (results_cell_and rfl _ _ w.heap.size 37 #[.int .i64 0, .int .i64 0] _ _ rfl (Blk.drew (((K1.out.set 0 (.int .i64 0)).set 1 (.int .i64 0)).alloc _)).out Try.underlying37 rfl (by kernel_rfl) rfl) rfl ⟨rfl, ?_⟩
      first
      | exact ((((B1.out.alloc B1.out.size _).drew).setCell (Nat.le_refl _) _).setCell (Nat.le_refl _) _)
      | exact ((((B1.out.setCell (Nat.le_refl _) _).setCell (Nat.le_refl _) _).alloc (by simpa using B1.out.size) _).drew)
  · rw [if_neg (by omega)]
    go_enter Try.func70, Try.ntmps70
    go_wp2_with fail
    refine (c.out _).mono ?_
    rintro e w1 ⟨rfl, bw⟩
    have k1 := Q2.out.below bw Q2.out.lt
    have B1 := Lib.hid (B0.out.trans (bw.mono (by simp)))
    have d0 := k1.cell 0; have d1 := k1.cell 1
    simp at d0 d1
    have f1 := k1.frozen
    have hz := k1.lt
    have K1 := Lib.hid k1
    clear k1 bw
    go_wp2
    go_region
    all_goals
      go_wp2
      refine bodyPost_ret (v := .tuple #[.agg #[.int .i64 x, .int .i64 y], .int .i64 0]) (results_cell_and rfl _ _ w.heap.size 37 #[.int .i64 x, .int .i64 y] _ _ rfl (Blk.drew (((K1.out.set 0 (.int .i64 x)).set 1 (.int .i64 y)).alloc _)).out Try.underlying37 rfl (by kernel_rfl) rfl) rfl ⟨rfl, ?_⟩
      first
      | exact ((((B1.out.alloc B1.out.size _).drew).setCell (Nat.le_refl _) _).setCell (Nat.le_refl _) _)
      | exact ((((B1.out.setCell (Nat.le_refl _) _).setCell (Nat.le_refl _) _).alloc (by simpa using B1.out.size) _).drew)
theorem of_rat (n d : Int) (w : World) (hn : In64 n) (hd : In64 d) :
    Calls Try.prog 70 #[.int .i64 n, .int .i64 d] w fun e w' => e = .returned (ofV n d) ∧ Below w.heap.size w w' := by
  by_cases h : n < 1 ∨ d < 1
  · exact of_arg n d w h
  · obtain ⟨g0, x0, xn, y0, yd⟩ := gcd_bd (n := n) (d := d) (by omega) (by omega)
    have := of_two n d _ _ _ w (by omega) (by omega) hn hd rfl rfl rfl x0 y0 xn yd g0
    refine this.mono fun e w' ⟨he, hb⟩ => ⟨?_, hb⟩
    rw [he]
    by_cases ho : 1099511627776 < n / Int.gcd n d ∨ 1099511627776 < d / Int.gcd n d
    · rw [if_pos ho, ofV_over (by omega) (by omega) rfl ho]
    · rw [if_neg ho, ofV_good (by omega) (by omega) rfl ho]

end Go.Proofs.Ytdbdeodcldogmaa
