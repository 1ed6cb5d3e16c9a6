/-
  Package rats: what Compare answers.
-/
import Derived.Test.YtdbdeodcldogmaaRats3
namespace Go.Proofs.Ytdbdeodcldogmaa
open Go.RowKit
set_option linter.unusedSimpArgs false
set_option linter.unusedVariables false

theorem cmp_words (x y : Int) : orI (cmpI (x / 18446744073709551616) (y / 18446744073709551616)) (cmpI (x % 18446744073709551616) (y % 18446744073709551616)) = cmpI x y := by
  unfold orI cmpI
  split <;> (repeat' split at *) <;> omega
/-- What Compare answers. -/
def cmpR (an ad bn bd : Int) : Int := if mayB an ad = true ∧ mayB bn bd = true then cmpI (an * bd) (bn * ad) else 0
theorem may_bd {n d : Int} (h : mayB n d = true) : 1 ≤ n ∧ 1 ≤ d ∧ n ≤ 1099511627776 ∧ d ≤ 1099511627776 ∧ Int.gcd n d = 1 := (may_iff n d).1 h

set_option maxHeartbeats 1000000 in
theorem compare_any (an ad bn bd : Int) (w : World) (h1 : In64 an) (h2 : In64 ad) (h3 : In64 bn) (h4 : In64 bd) :
    Calls Try.prog 36 #[.agg #[.int .i64 an, .int .i64 ad], .agg #[.int .i64 bn, .int .i64 bd]] w fun e w' => e = .returned (.int .i64 (cmpR an ad bn bd)) ∧ Below w.heap.size w w' := by
  have c1 := Lib.hid (fun w => may_any an ad w h1 h2)
  have c2 := Lib.hid (fun w => may_any bn bd w h3 h4)
  have k1 : Blk ((w.alloc (.cells #[.int .i64 an, .int .i64 ad] 37)).alloc (.cells #[.int .i64 bn, .int .i64 bd] 37)) w.heap.size #[.int .i64 an, .int .i64 ad] 37 := (Blk.new _ _ _).alloc _
  have k2 : Blk ((w.alloc (.cells #[.int .i64 an, .int .i64 ad] 37)).alloc (.cells #[.int .i64 bn, .int .i64 bd] 37)) (w.heap.size + 1) #[.int .i64 bn, .int .i64 bd] 37 := Blk.newAt _ _ _ (by simp)
  have b0 : Below w.heap.size w ((w.alloc (.cells #[.int .i64 an, .int .i64 ad] 37)).alloc (.cells #[.int .i64 bn, .int .i64 bd] 37)) := ((Below.refl _ _).alloc (Nat.le_refl _) _).alloc (by simp) _
  have K1 := Lib.hid k1; have K2 := Lib.hid k2; have B0 := Lib.hid b0
  clear k1 k2 b0 h1 h2 h3 h4
  by_cases hm : mayB an ad = true
  · by_cases hm2 : mayB bn bd = true
    · rw [show cmpR an ad bn bd = cmpI (an * bd) (bn * ad) by unfold cmpR; rw [if_pos ⟨hm, hm2⟩], ← cmp_words]
      obtain ⟨p1, p2, p3, p4, _⟩ := may_bd hm
      obtain ⟨q1, q2, q3, q4, _⟩ := may_bd hm2
      rw [hm] at c1; rw [hm2] at c2
      have u1 : IntKind.u64.wrap an = an := u64_of _ ⟨by omega, by omega⟩
      have u2 : IntKind.u64.wrap ad = ad := u64_of _ ⟨by omega, by omega⟩
      have u3 : IntKind.u64.wrap bn = bn := u64_of _ ⟨by omega, by omega⟩
      have u4 : IntKind.u64.wrap bd = bd := u64_of _ ⟨by omega, by omega⟩
      have cm1 := Lib.hid (fun w => mul64_any an bd w ⟨by omega, by omega⟩ ⟨by omega, by omega⟩)
      have cm2 := Lib.hid (fun w => mul64_any bn ad w ⟨by omega, by omega⟩ ⟨by omega, by omega⟩)
      have cc := Lib.hid compare_u64
      generalize an * bd = x at *
      generalize bn * ad = y at *
      clear hm hm2 p1 p2 p3 p4 q1 q2 q3 q4
      go_enter Try.func36, Try.ntmps36
      go_wp2_with fail
      refine (c1.out _).mono ?_
      rintro e w1 ⟨rfl, b1⟩
      have B1 := Lib.hid (B0.out.trans (b1.mono (by simp; omega)))
      have r1 := K1.out.below b1 K1.out.lt; have r2 := K2.out.below b1 K2.out.lt
      have d0 := r1.cell 0; have d1 := r1.cell 1; have e0 := r2.cell 0; have e1 := r2.cell 1
      simp at d0 d1 e0 e1
      have R1 := Lib.hid r1; have R2 := Lib.hid r2
      clear r1 r2 b1
      go_wp2_with fail
      refine (c2.out _).mono ?_
      rintro e w2 ⟨rfl, b2⟩
      have B2 := Lib.hid (B1.out.trans (b2.mono B1.out.size))
      have r1 := R1.out.below b2 R1.out.lt; have r2 := R2.out.below b2 R2.out.lt
      clear d0 d1 e0 e1
      have d0 := r1.cell 0; have d1 := r1.cell 1; have e0 := r2.cell 0; have e1 := r2.cell 1
      simp at d0 d1 e0 e1
      clear r1 r2 b2
      go_wp2_with fail
      refine (cm1.out _).mono ?_
      rintro e w2 ⟨rfl, rfl⟩
      go_wp2_with fail
      refine (cm2.out _).mono ?_
      rintro e w2 ⟨rfl, rfl⟩
      go_wp2_with fail
      refine (cc.out _ _ _).mono ?_
      rintro e w2 ⟨rfl, rfl⟩
      go_wp2_with fail
      refine (cc.out _ _ _).mono ?_
      rintro e w2 ⟨rfl, rfl⟩
      go_wp2_with fail
      refine (or_two w2.heap.size _ (cmpI (x / 18446744073709551616) (y / 18446744073709551616)) (cmpI (x % 18446744073709551616) (y % 18446744073709551616)) _ (by simp) (by simp) (by simp)).mono ?_
      rintro e w2 ⟨rfl, rfl⟩
      go_wp2_with fail
      go_ret
      exact ⟨rfl, B2.out.alloc B2.out.size _⟩
    · rw [show cmpR an ad bn bd = 0 by unfold cmpR; rw [if_neg (by simp [hm2])]]
      simp only [Bool.not_eq_true] at hm2
      rw [hm] at c1; rw [hm2] at c2
      clear hm hm2
      go_enter Try.func36, Try.ntmps36
      go_wp2_with fail
      refine (c1.out _).mono ?_
      rintro e w1 ⟨rfl, b1⟩
      have B1 := Lib.hid (B0.out.trans (b1.mono (by simp; omega)))
      have r2 := K2.out.below b1 K2.out.lt
      have e0 := r2.cell 0; have e1 := r2.cell 1
      simp at e0 e1
      clear r2 b1
      go_wp2_with fail
      refine (c2.out _).mono ?_
      rintro e w2 ⟨rfl, b2⟩
      go_wp2_with fail
      go_ret
      exact ⟨rfl, B1.out.trans (b2.mono B1.out.size)⟩
  · rw [show cmpR an ad bn bd = 0 by unfold cmpR; rw [if_neg (by simp [hm])]]
    simp only [Bool.not_eq_true] at hm
    rw [hm] at c1
    clear hm
    go_enter Try.func36, Try.ntmps36
    go_wp2_with fail
    refine (c1.out _).mono ?_
    rintro e w1 ⟨rfl, b1⟩
    go_wp2_with fail
    go_ret
    exact ⟨rfl, B0.out.trans (b1.mono (by simp; omega))⟩

end Go.Proofs.Ytdbdeodcldogmaa
