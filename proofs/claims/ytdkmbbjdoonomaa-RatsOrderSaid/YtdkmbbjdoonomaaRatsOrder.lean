/-
  RatsOrder: the walk, for every three rates.
-/
import Derived.Test.YtdkmbbjdoonomaaRef02e
import Derived.Test.YtdkmbbjdoonomaaLives02
namespace Go.Proofs.Ytdkmbbjdoonomaa
open Go.RowKit
set_option linter.unusedSimpArgs false
set_option linter.unusedVariables false

theorem dvd_of_gcd {k m n : Int} (h2 : k ∣ m * n) (h : Int.gcd k m = 1) : k ∣ n := by
  rw [← Int.natAbs_dvd_natAbs] at h2 ⊢
  rw [Int.natAbs_mul] at h2
  exact Nat.Coprime.dvd_of_dvd_mul_left h h2
/-- Two rates that may be, and are the same, have the same terms. -/
theorem rate_same {an ad bn bd : Int} (h1 : mayB an ad = true) (h2 : mayB bn bd = true) (h : an * bd = bn * ad) : an = bn ∧ ad = bd := by
  obtain ⟨p1, p2, _, _, p5⟩ := may_bd h1
  obtain ⟨q1, q2, _, _, q5⟩ := may_bd h2
  have d1 : an ∣ bn := dvd_of_gcd (m := ad) (show an ∣ ad * bn from ⟨bd, by rw [Int.mul_comm ad bn]; omega⟩) p5
  have d2 : bn ∣ an := dvd_of_gcd (m := bd) (show bn ∣ bd * an from ⟨ad, by rw [Int.mul_comm bd an]; omega⟩) q5
  have e : an = bn := by
    have := Int.le_of_dvd (by omega) d1
    have := Int.le_of_dvd (by omega) d2
    omega
  subst e
  refine ⟨rfl, ?_⟩
  have := Int.eq_of_mul_eq_mul_left (show an ≠ 0 by omega) h
  omega
theorem cmp_trans {an ad bn bd cn cd : Int} (h1 : mayB an ad = true) (h2 : mayB bn bd = true) (h3 : mayB cn cd = true) (hab : cmpI (an * bd) (bn * ad) ≤ 0) (hbc : cmpI (bn * cd) (cn * bd) ≤ 0) : cmpI (an * cd) (cn * ad) ≤ 0 := by
  obtain ⟨p1, p2, _, _, _⟩ := may_bd h1
  obtain ⟨q1, q2, _, _, _⟩ := may_bd h2
  obtain ⟨r1, r2, _, _, _⟩ := may_bd h3
  have le_of : ∀ x y : Int, cmpI x y ≤ 0 → x ≤ y := by intro x y h; unfold cmpI at h; (repeat' split at h) <;> omega
  have h4 := le_of _ _ hab
  have h5 := le_of _ _ hbc
  have h6 : an * cd ≤ cn * ad := by
    have e1 := Int.mul_le_mul_of_nonneg_right h4 (show 0 ≤ cd by omega)
    have e2 := Int.mul_le_mul_of_nonneg_right h5 (show 0 ≤ ad by omega)
    have e3 : bn * ad * cd = bn * cd * ad := by rw [Int.mul_assoc, Int.mul_comm ad cd, ← Int.mul_assoc]
    have e4 : an * bd * cd = an * cd * bd := by rw [Int.mul_assoc, Int.mul_comm bd cd, ← Int.mul_assoc]
    have e5 : cn * bd * ad = cn * ad * bd := by rw [Int.mul_assoc, Int.mul_comm bd ad, ← Int.mul_assoc]
    exact Int.le_of_mul_le_mul_right (show an * cd * bd ≤ cn * ad * bd by omega) (by omega)
  unfold cmpI
  (repeat' split) <;> omega
theorem cmpI_neg (x y : Int) : cmpI y x = - cmpI x y := by unfold cmpI; (repeat' split) <;> omega
theorem cmpI_cases (x y : Int) : cmpI x y = -1 ∨ (cmpI x y = 0 ∧ x = y) ∨ cmpI x y = 1 := by unfold cmpI; (repeat' split) <;> omega
theorem cmpR_both {an ad bn bd : Int} (h1 : mayB an ad = true) (h2 : mayB bn bd = true) : cmpR an ad bn bd = cmpI (an * bd) (bn * ad) := by unfold cmpR; rw [if_pos ⟨h1, h2⟩]
theorem cmpR_nota {an ad bn bd : Int} (h1 : mayB an ad = false) : cmpR an ad bn bd = 0 := by unfold cmpR; rw [if_neg (by simp [h1])]
theorem cmpR_notb {an ad bn bd : Int} (h1 : mayB bn bd = false) : cmpR an ad bn bd = 0 := by unfold cmpR; rw [if_neg (by simp [h1])]
theorem al_may {n d : Int} (h : mayB n d = true) : alN n d = n ∧ alD n d = d := by unfold alN alD; rw [h]; exact ⟨rfl, rfl⟩

set_option maxHeartbeats 8000000 in
set_option maxRecDepth 100000 in
theorem order_nota (an ad bn bd cn cd : Int) (w : World)
    (cab : Hid (∀ w, Calls Try.prog 16 #[.agg #[.int .i64 an, .int .i64 ad], .agg #[.int .i64 bn, .int .i64 bd]] w fun e w' => e = .returned (.int .i64 0) ∧ Below w.heap.size w w'))
    (cba : Hid (∀ w, Calls Try.prog 16 #[.agg #[.int .i64 bn, .int .i64 bd], .agg #[.int .i64 an, .int .i64 ad]] w fun e w' => e = .returned (.int .i64 0) ∧ Below w.heap.size w w'))
    (mA : Hid (∀ w, Calls Try.prog 11 #[.agg #[.int .i64 an, .int .i64 ad]] w fun e w' => e = .returned (.bool false) ∧ Below w.heap.size w w')) :
    Calls Try.prog 6 #[.agg #[.int .i64 an, .int .i64 ad], .agg #[.int .i64 bn, .int .i64 bd], .agg #[.int .i64 cn, .int .i64 cd]] w fun e w' => e = .returned (.bool true) ∧ Below w.heap.size w w' := by
  have l := Lib.hid lives02_any
  have k1 : Blk (((w.alloc (.cells #[.int .i64 an, .int .i64 ad] 23)).alloc (.cells #[.int .i64 bn, .int .i64 bd] 23)).alloc (.cells #[.int .i64 cn, .int .i64 cd] 23)) w.heap.size #[.int .i64 an, .int .i64 ad] 23 := ((Blk.new _ _ _).alloc _).alloc _
  have k2 : Blk (((w.alloc (.cells #[.int .i64 an, .int .i64 ad] 23)).alloc (.cells #[.int .i64 bn, .int .i64 bd] 23)).alloc (.cells #[.int .i64 cn, .int .i64 cd] 23)) (w.heap.size + 1) #[.int .i64 bn, .int .i64 bd] 23 := (Blk.newAt _ _ _ (by simp)).alloc _
  have k3 : Blk (((w.alloc (.cells #[.int .i64 an, .int .i64 ad] 23)).alloc (.cells #[.int .i64 bn, .int .i64 bd] 23)).alloc (.cells #[.int .i64 cn, .int .i64 cd] 23)) (w.heap.size + 1 + 1) #[.int .i64 cn, .int .i64 cd] 23 := Blk.newAt _ _ _ (by simp)
  have b0 : Below w.heap.size w (((w.alloc (.cells #[.int .i64 an, .int .i64 ad] 23)).alloc (.cells #[.int .i64 bn, .int .i64 bd] 23)).alloc (.cells #[.int .i64 cn, .int .i64 cd] 23)) := (((Below.refl _ _).alloc (Nat.le_refl _) _).alloc (by simp) _).alloc (by simp; omega) _
  have KA := Lib.hid k1; have KB := Lib.hid k2; have KC := Lib.hid k3; have B0 := Lib.hid b0
  clear k1 k2 k3 b0
  go_enter Try.func6, Try.ntmps6
  go_wp2_with fail
  refine (cab.out _).mono ?_
  rintro e w1 ⟨rfl, b1⟩
  have KA_1 := Lib.hid (KA.out.below b1 KA.out.lt)
  have KB_1 := Lib.hid (KB.out.below b1 KB.out.lt)
  have KC_1 := Lib.hid (KC.out.below b1 KC.out.lt)
  have B_1 := Lib.hid (B0.out.trans (b1.mono B0.out.size))
  clear b1
  have x0_KA_1 := KA_1.out.cell 0; have x1_KA_1 := KA_1.out.cell 1
  simp at x0_KA_1 x1_KA_1
  have x0_KB_1 := KB_1.out.cell 0; have x1_KB_1 := KB_1.out.cell 1
  simp at x0_KB_1 x1_KB_1
  go_wp2_with fail
  refine (cba.out _).mono ?_
  rintro e w2 ⟨rfl, b2⟩
  have KA_2 := Lib.hid (KA_1.out.below b2 KA_1.out.lt)
  have KB_2 := Lib.hid (KB_1.out.below b2 KB_1.out.lt)
  have KC_2 := Lib.hid (KC_1.out.below b2 KC_1.out.lt)
  have B_2 := Lib.hid (B_1.out.trans (b2.mono B_1.out.size))
  clear b2
  have x0_KA_2 := KA_2.out.cell 0; have x1_KA_2 := KA_2.out.cell 1
  simp at x0_KA_2 x1_KA_2
  go_wp2_with fail
  refine (mA.out _).mono ?_
  rintro e w3 ⟨rfl, b3⟩
  have KA_3 := Lib.hid (KA_2.out.below b3 KA_2.out.lt)
  have KB_3 := Lib.hid (KB_2.out.below b3 KB_2.out.lt)
  have KC_3 := Lib.hid (KC_2.out.below b3 KC_2.out.lt)
  have B_3 := Lib.hid (B_2.out.trans (b3.mono B_2.out.size))
  clear b3
  go_wp2_with fail
  refine (l.out _).mono ?_
  rintro e w4 ⟨rfl, b4⟩
  have KA_4 := Lib.hid (KA_3.out.below b4 KA_3.out.lt)
  have KB_4 := Lib.hid (KB_3.out.below b4 KB_3.out.lt)
  have KC_4 := Lib.hid (KC_3.out.below b4 KC_3.out.lt)
  have B_4 := Lib.hid (B_3.out.trans (b4.mono B_3.out.size))
  clear b4
  go_wp2_with fail
  go_ret
  exact ⟨rfl, B_4.out⟩
set_option maxHeartbeats 8000000 in
set_option maxRecDepth 100000 in
theorem order_notb (an ad bn bd cn cd : Int) (w : World)
    (cab : Hid (∀ w, Calls Try.prog 16 #[.agg #[.int .i64 an, .int .i64 ad], .agg #[.int .i64 bn, .int .i64 bd]] w fun e w' => e = .returned (.int .i64 0) ∧ Below w.heap.size w w'))
    (cba : Hid (∀ w, Calls Try.prog 16 #[.agg #[.int .i64 bn, .int .i64 bd], .agg #[.int .i64 an, .int .i64 ad]] w fun e w' => e = .returned (.int .i64 0) ∧ Below w.heap.size w w'))
    (mA : Hid (∀ w, Calls Try.prog 11 #[.agg #[.int .i64 an, .int .i64 ad]] w fun e w' => e = .returned (.bool true) ∧ Below w.heap.size w w'))
    (mB : Hid (∀ w, Calls Try.prog 11 #[.agg #[.int .i64 bn, .int .i64 bd]] w fun e w' => e = .returned (.bool false) ∧ Below w.heap.size w w')) :
    Calls Try.prog 6 #[.agg #[.int .i64 an, .int .i64 ad], .agg #[.int .i64 bn, .int .i64 bd], .agg #[.int .i64 cn, .int .i64 cd]] w fun e w' => e = .returned (.bool true) ∧ Below w.heap.size w w' := by
  have l := Lib.hid lives02_any
  have k1 : Blk (((w.alloc (.cells #[.int .i64 an, .int .i64 ad] 23)).alloc (.cells #[.int .i64 bn, .int .i64 bd] 23)).alloc (.cells #[.int .i64 cn, .int .i64 cd] 23)) w.heap.size #[.int .i64 an, .int .i64 ad] 23 := ((Blk.new _ _ _).alloc _).alloc _
  have k2 : Blk (((w.alloc (.cells #[.int .i64 an, .int .i64 ad] 23)).alloc (.cells #[.int .i64 bn, .int .i64 bd] 23)).alloc (.cells #[.int .i64 cn, .int .i64 cd] 23)) (w.heap.size + 1) #[.int .i64 bn, .int .i64 bd] 23 := (Blk.newAt _ _ _ (by simp)).alloc _
  have k3 : Blk (((w.alloc (.cells #[.int .i64 an, .int .i64 ad] 23)).alloc (.cells #[.int .i64 bn, .int .i64 bd] 23)).alloc (.cells #[.int .i64 cn, .int .i64 cd] 23)) (w.heap.size + 1 + 1) #[.int .i64 cn, .int .i64 cd] 23 := Blk.newAt _ _ _ (by simp)
  have b0 : Below w.heap.size w (((w.alloc (.cells #[.int .i64 an, .int .i64 ad] 23)).alloc (.cells #[.int .i64 bn, .int .i64 bd] 23)).alloc (.cells #[.int .i64 cn, .int .i64 cd] 23)) := (((Below.refl _ _).alloc (Nat.le_refl _) _).alloc (by simp) _).alloc (by simp; omega) _
  have KA := Lib.hid k1; have KB := Lib.hid k2; have KC := Lib.hid k3; have B0 := Lib.hid b0
  clear k1 k2 k3 b0
  go_enter Try.func6, Try.ntmps6
  go_wp2_with fail
  refine (cab.out _).mono ?_
  rintro e w1 ⟨rfl, b1⟩
  have KA_1 := Lib.hid (KA.out.below b1 KA.out.lt)
  have KB_1 := Lib.hid (KB.out.below b1 KB.out.lt)
  have KC_1 := Lib.hid (KC.out.below b1 KC.out.lt)
  have B_1 := Lib.hid (B0.out.trans (b1.mono B0.out.size))
  clear b1
  have x0_KA_1 := KA_1.out.cell 0; have x1_KA_1 := KA_1.out.cell 1
  simp at x0_KA_1 x1_KA_1
  have x0_KB_1 := KB_1.out.cell 0; have x1_KB_1 := KB_1.out.cell 1
  simp at x0_KB_1 x1_KB_1
  go_wp2_with fail
  refine (cba.out _).mono ?_
  rintro e w2 ⟨rfl, b2⟩
  have KA_2 := Lib.hid (KA_1.out.below b2 KA_1.out.lt)
  have KB_2 := Lib.hid (KB_1.out.below b2 KB_1.out.lt)
  have KC_2 := Lib.hid (KC_1.out.below b2 KC_1.out.lt)
  have B_2 := Lib.hid (B_1.out.trans (b2.mono B_1.out.size))
  clear b2
  have x0_KA_2 := KA_2.out.cell 0; have x1_KA_2 := KA_2.out.cell 1
  simp at x0_KA_2 x1_KA_2
  go_wp2_with fail
  refine (mA.out _).mono ?_
  rintro e w3 ⟨rfl, b3⟩
  have KA_3 := Lib.hid (KA_2.out.below b3 KA_2.out.lt)
  have KB_3 := Lib.hid (KB_2.out.below b3 KB_2.out.lt)
  have KC_3 := Lib.hid (KC_2.out.below b3 KC_2.out.lt)
  have B_3 := Lib.hid (B_2.out.trans (b3.mono B_2.out.size))
  clear b3
  have x0_KB_3 := KB_3.out.cell 0; have x1_KB_3 := KB_3.out.cell 1
  simp at x0_KB_3 x1_KB_3
  go_wp2_with fail
  refine (mB.out _).mono ?_
  rintro e w4 ⟨rfl, b4⟩
  have KA_4 := Lib.hid (KA_3.out.below b4 KA_3.out.lt)
  have KB_4 := Lib.hid (KB_3.out.below b4 KB_3.out.lt)
  have KC_4 := Lib.hid (KC_3.out.below b4 KC_3.out.lt)
  have B_4 := Lib.hid (B_3.out.trans (b4.mono B_3.out.size))
  clear b4
  go_wp2_with fail
  refine (l.out _).mono ?_
  rintro e w5 ⟨rfl, b5⟩
  have KA_5 := Lib.hid (KA_4.out.below b5 KA_4.out.lt)
  have KB_5 := Lib.hid (KB_4.out.below b5 KB_4.out.lt)
  have KC_5 := Lib.hid (KC_4.out.below b5 KC_4.out.lt)
  have B_5 := Lib.hid (B_4.out.trans (b5.mono B_4.out.size))
  clear b5
  go_wp2_with fail
  go_ret
  exact ⟨rfl, B_5.out⟩
set_option maxHeartbeats 8000000 in
set_option maxRecDepth 100000 in
theorem order_notc_m (an ad bn bd cn cd : Int) (w : World)
    (cab : Hid (∀ w, Calls Try.prog 16 #[.agg #[.int .i64 an, .int .i64 ad], .agg #[.int .i64 bn, .int .i64 bd]] w fun e w' => e = .returned (.int .i64 (-1)) ∧ Below w.heap.size w w'))
    (cba : Hid (∀ w, Calls Try.prog 16 #[.agg #[.int .i64 bn, .int .i64 bd], .agg #[.int .i64 an, .int .i64 ad]] w fun e w' => e = .returned (.int .i64 1) ∧ Below w.heap.size w w'))
    (mA : Hid (∀ w, Calls Try.prog 11 #[.agg #[.int .i64 an, .int .i64 ad]] w fun e w' => e = .returned (.bool true) ∧ Below w.heap.size w w'))
    (mB : Hid (∀ w, Calls Try.prog 11 #[.agg #[.int .i64 bn, .int .i64 bd]] w fun e w' => e = .returned (.bool true) ∧ Below w.heap.size w w'))
    (mC : Hid (∀ w, Calls Try.prog 11 #[.agg #[.int .i64 cn, .int .i64 cd]] w fun e w' => e = .returned (.bool false) ∧ Below w.heap.size w w')) :
    Calls Try.prog 6 #[.agg #[.int .i64 an, .int .i64 ad], .agg #[.int .i64 bn, .int .i64 bd], .agg #[.int .i64 cn, .int .i64 cd]] w fun e w' => e = .returned (.bool true) ∧ Below w.heap.size w w' := by
  have l := Lib.hid lives02_any
  have k1 : Blk (((w.alloc (.cells #[.int .i64 an, .int .i64 ad] 23)).alloc (.cells #[.int .i64 bn, .int .i64 bd] 23)).alloc (.cells #[.int .i64 cn, .int .i64 cd] 23)) w.heap.size #[.int .i64 an, .int .i64 ad] 23 := ((Blk.new _ _ _).alloc _).alloc _
  have k2 : Blk (((w.alloc (.cells #[.int .i64 an, .int .i64 ad] 23)).alloc (.cells #[.int .i64 bn, .int .i64 bd] 23)).alloc (.cells #[.int .i64 cn, .int .i64 cd] 23)) (w.heap.size + 1) #[.int .i64 bn, .int .i64 bd] 23 := (Blk.newAt _ _ _ (by simp)).alloc _
  have k3 : Blk (((w.alloc (.cells #[.int .i64 an, .int .i64 ad] 23)).alloc (.cells #[.int .i64 bn, .int .i64 bd] 23)).alloc (.cells #[.int .i64 cn, .int .i64 cd] 23)) (w.heap.size + 1 + 1) #[.int .i64 cn, .int .i64 cd] 23 := Blk.newAt _ _ _ (by simp)
  have b0 : Below w.heap.size w (((w.alloc (.cells #[.int .i64 an, .int .i64 ad] 23)).alloc (.cells #[.int .i64 bn, .int .i64 bd] 23)).alloc (.cells #[.int .i64 cn, .int .i64 cd] 23)) := (((Below.refl _ _).alloc (Nat.le_refl _) _).alloc (by simp) _).alloc (by simp; omega) _
  have KA := Lib.hid k1; have KB := Lib.hid k2; have KC := Lib.hid k3; have B0 := Lib.hid b0
  clear k1 k2 k3 b0
  go_enter Try.func6, Try.ntmps6
  go_wp2_with fail
  refine (cab.out _).mono ?_
  rintro e w1 ⟨rfl, b1⟩
  have KA_1 := Lib.hid (KA.out.below b1 KA.out.lt)
  have KB_1 := Lib.hid (KB.out.below b1 KB.out.lt)
  have KC_1 := Lib.hid (KC.out.below b1 KC.out.lt)
  have B_1 := Lib.hid (B0.out.trans (b1.mono B0.out.size))
  clear b1
  have x0_KA_1 := KA_1.out.cell 0; have x1_KA_1 := KA_1.out.cell 1
  simp at x0_KA_1 x1_KA_1
  have x0_KB_1 := KB_1.out.cell 0; have x1_KB_1 := KB_1.out.cell 1
  simp at x0_KB_1 x1_KB_1
  go_wp2_with fail
  refine (cba.out _).mono ?_
  rintro e w2 ⟨rfl, b2⟩
  have KA_2 := Lib.hid (KA_1.out.below b2 KA_1.out.lt)
  have KB_2 := Lib.hid (KB_1.out.below b2 KB_1.out.lt)
  have KC_2 := Lib.hid (KC_1.out.below b2 KC_1.out.lt)
  have B_2 := Lib.hid (B_1.out.trans (b2.mono B_1.out.size))
  clear b2
  have x0_KA_2 := KA_2.out.cell 0; have x1_KA_2 := KA_2.out.cell 1
  simp at x0_KA_2 x1_KA_2
  go_wp2_with fail
  refine (mA.out _).mono ?_
  rintro e w3 ⟨rfl, b3⟩
  have KA_3 := Lib.hid (KA_2.out.below b3 KA_2.out.lt)
  have KB_3 := Lib.hid (KB_2.out.below b3 KB_2.out.lt)
  have KC_3 := Lib.hid (KC_2.out.below b3 KC_2.out.lt)
  have B_3 := Lib.hid (B_2.out.trans (b3.mono B_2.out.size))
  clear b3
  have x0_KB_3 := KB_3.out.cell 0; have x1_KB_3 := KB_3.out.cell 1
  simp at x0_KB_3 x1_KB_3
  go_wp2_with fail
  refine (mB.out _).mono ?_
  rintro e w4 ⟨rfl, b4⟩
  have KA_4 := Lib.hid (KA_3.out.below b4 KA_3.out.lt)
  have KB_4 := Lib.hid (KB_3.out.below b4 KB_3.out.lt)
  have KC_4 := Lib.hid (KC_3.out.below b4 KC_3.out.lt)
  have B_4 := Lib.hid (B_3.out.trans (b4.mono B_3.out.size))
  clear b4
  have x0_KC_4 := KC_4.out.cell 0; have x1_KC_4 := KC_4.out.cell 1
  simp at x0_KC_4 x1_KC_4
  go_wp2_with fail
  refine (mC.out _).mono ?_
  rintro e w5 ⟨rfl, b5⟩
  have KA_5 := Lib.hid (KA_4.out.below b5 KA_4.out.lt)
  have KB_5 := Lib.hid (KB_4.out.below b5 KB_4.out.lt)
  have KC_5 := Lib.hid (KC_4.out.below b5 KC_4.out.lt)
  have B_5 := Lib.hid (B_4.out.trans (b5.mono B_4.out.size))
  clear b5
  have x0_KA_5 := KA_5.out.cell 0; have x1_KA_5 := KA_5.out.cell 1
  simp at x0_KA_5 x1_KA_5
  go_wp2_with fail
  refine (mA.out _).mono ?_
  rintro e w6 ⟨rfl, b6⟩
  have KA_6 := Lib.hid (KA_5.out.below b6 KA_5.out.lt)
  have KB_6 := Lib.hid (KB_5.out.below b6 KB_5.out.lt)
  have KC_6 := Lib.hid (KC_5.out.below b6 KC_5.out.lt)
  have B_6 := Lib.hid (B_5.out.trans (b6.mono B_5.out.size))
  clear b6
  have x0_KB_6 := KB_6.out.cell 0; have x1_KB_6 := KB_6.out.cell 1
  simp at x0_KB_6 x1_KB_6
  go_wp2_with fail
  refine (mB.out _).mono ?_
  rintro e w7 ⟨rfl, b7⟩
  have KA_7 := Lib.hid (KA_6.out.below b7 KA_6.out.lt)
  have KB_7 := Lib.hid (KB_6.out.below b7 KB_6.out.lt)
  have KC_7 := Lib.hid (KC_6.out.below b7 KC_6.out.lt)
  have B_7 := Lib.hid (B_6.out.trans (b7.mono B_6.out.size))
  clear b7
  go_wp2_with fail
  refine (l.out _).mono ?_
  rintro e w8 ⟨rfl, b8⟩
  have KA_8 := Lib.hid (KA_7.out.below b8 KA_7.out.lt)
  have KB_8 := Lib.hid (KB_7.out.below b8 KB_7.out.lt)
  have KC_8 := Lib.hid (KC_7.out.below b8 KC_7.out.lt)
  have B_8 := Lib.hid (B_7.out.trans (b8.mono B_7.out.size))
  clear b8
  go_wp2_with fail
  go_ret
  exact ⟨rfl, B_8.out⟩
set_option maxHeartbeats 8000000 in
set_option maxRecDepth 100000 in
theorem order_all_m (an ad bn bd cn cd : Int) (p q : Int) (hpq : 0 < p ∨ (p ≤ 0 ∧ q ≤ 0)) (w : World)
    (cab : Hid (∀ w, Calls Try.prog 16 #[.agg #[.int .i64 an, .int .i64 ad], .agg #[.int .i64 bn, .int .i64 bd]] w fun e w' => e = .returned (.int .i64 (-1)) ∧ Below w.heap.size w w'))
    (cba : Hid (∀ w, Calls Try.prog 16 #[.agg #[.int .i64 bn, .int .i64 bd], .agg #[.int .i64 an, .int .i64 ad]] w fun e w' => e = .returned (.int .i64 1) ∧ Below w.heap.size w w'))
    (mA : Hid (∀ w, Calls Try.prog 11 #[.agg #[.int .i64 an, .int .i64 ad]] w fun e w' => e = .returned (.bool true) ∧ Below w.heap.size w w'))
    (mB : Hid (∀ w, Calls Try.prog 11 #[.agg #[.int .i64 bn, .int .i64 bd]] w fun e w' => e = .returned (.bool true) ∧ Below w.heap.size w w'))
    (mC : Hid (∀ w, Calls Try.prog 11 #[.agg #[.int .i64 cn, .int .i64 cd]] w fun e w' => e = .returned (.bool true) ∧ Below w.heap.size w w'))
    (iA : Hid (∀ w, Calls Try.prog 13 #[.agg #[.int .i64 an, .int .i64 ad]] w fun e w' => e = .returned (.agg #[.int .i64 ad, .int .i64 an]) ∧ Below w.heap.size w w'))
    (iAA : Hid (∀ w, Calls Try.prog 13 #[.agg #[.int .i64 ad, .int .i64 an]] w fun e w' => e = .returned (.agg #[.int .i64 an, .int .i64 ad]) ∧ Below w.heap.size w w'))
    (iB : Hid (∀ w, Calls Try.prog 13 #[.agg #[.int .i64 bn, .int .i64 bd]] w fun e w' => e = .returned (.agg #[.int .i64 bd, .int .i64 bn]) ∧ Below w.heap.size w w'))
    (cI : Hid (∀ w, Calls Try.prog 16 #[.agg #[.int .i64 ad, .int .i64 an], .agg #[.int .i64 bd, .int .i64 bn]] w fun e w' => e = .returned (.int .i64 1) ∧ Below w.heap.size w w'))
    (cbc : Hid (∀ w, Calls Try.prog 16 #[.agg #[.int .i64 bn, .int .i64 bd], .agg #[.int .i64 cn, .int .i64 cd]] w fun e w' => e = .returned (.int .i64 p) ∧ Below w.heap.size w w'))
    (cac : Hid (∀ w, Calls Try.prog 16 #[.agg #[.int .i64 an, .int .i64 ad], .agg #[.int .i64 cn, .int .i64 cd]] w fun e w' => e = .returned (.int .i64 q) ∧ Below w.heap.size w w')) :
    Calls Try.prog 6 #[.agg #[.int .i64 an, .int .i64 ad], .agg #[.int .i64 bn, .int .i64 bd], .agg #[.int .i64 cn, .int .i64 cd]] w fun e w' => e = .returned (.bool true) ∧ Below w.heap.size w w' := by
  have l := Lib.hid lives02_any
  have k1 : Blk (((w.alloc (.cells #[.int .i64 an, .int .i64 ad] 23)).alloc (.cells #[.int .i64 bn, .int .i64 bd] 23)).alloc (.cells #[.int .i64 cn, .int .i64 cd] 23)) w.heap.size #[.int .i64 an, .int .i64 ad] 23 := ((Blk.new _ _ _).alloc _).alloc _
  have k2 : Blk (((w.alloc (.cells #[.int .i64 an, .int .i64 ad] 23)).alloc (.cells #[.int .i64 bn, .int .i64 bd] 23)).alloc (.cells #[.int .i64 cn, .int .i64 cd] 23)) (w.heap.size + 1) #[.int .i64 bn, .int .i64 bd] 23 := (Blk.newAt _ _ _ (by simp)).alloc _
  have k3 : Blk (((w.alloc (.cells #[.int .i64 an, .int .i64 ad] 23)).alloc (.cells #[.int .i64 bn, .int .i64 bd] 23)).alloc (.cells #[.int .i64 cn, .int .i64 cd] 23)) (w.heap.size + 1 + 1) #[.int .i64 cn, .int .i64 cd] 23 := Blk.newAt _ _ _ (by simp)
  have b0 : Below w.heap.size w (((w.alloc (.cells #[.int .i64 an, .int .i64 ad] 23)).alloc (.cells #[.int .i64 bn, .int .i64 bd] 23)).alloc (.cells #[.int .i64 cn, .int .i64 cd] 23)) := (((Below.refl _ _).alloc (Nat.le_refl _) _).alloc (by simp) _).alloc (by simp; omega) _
  have KA := Lib.hid k1; have KB := Lib.hid k2; have KC := Lib.hid k3; have B0 := Lib.hid b0
  clear k1 k2 k3 b0
  go_enter Try.func6, Try.ntmps6
  go_wp2_with fail
  refine (cab.out _).mono ?_
  rintro e w1 ⟨rfl, b1⟩
  have KA_1 := Lib.hid (KA.out.below b1 KA.out.lt)
  have KB_1 := Lib.hid (KB.out.below b1 KB.out.lt)
  have KC_1 := Lib.hid (KC.out.below b1 KC.out.lt)
  have B_1 := Lib.hid (B0.out.trans (b1.mono B0.out.size))
  clear b1
  have x0_KA_1 := KA_1.out.cell 0; have x1_KA_1 := KA_1.out.cell 1
  simp at x0_KA_1 x1_KA_1
  have x0_KB_1 := KB_1.out.cell 0; have x1_KB_1 := KB_1.out.cell 1
  simp at x0_KB_1 x1_KB_1
  go_wp2_with fail
  refine (cba.out _).mono ?_
  rintro e w2 ⟨rfl, b2⟩
  have KA_2 := Lib.hid (KA_1.out.below b2 KA_1.out.lt)
  have KB_2 := Lib.hid (KB_1.out.below b2 KB_1.out.lt)
  have KC_2 := Lib.hid (KC_1.out.below b2 KC_1.out.lt)
  have B_2 := Lib.hid (B_1.out.trans (b2.mono B_1.out.size))
  clear b2
  have x0_KA_2 := KA_2.out.cell 0; have x1_KA_2 := KA_2.out.cell 1
  simp at x0_KA_2 x1_KA_2
  go_wp2_with fail
  refine (mA.out _).mono ?_
  rintro e w3 ⟨rfl, b3⟩
  have KA_3 := Lib.hid (KA_2.out.below b3 KA_2.out.lt)
  have KB_3 := Lib.hid (KB_2.out.below b3 KB_2.out.lt)
  have KC_3 := Lib.hid (KC_2.out.below b3 KC_2.out.lt)
  have B_3 := Lib.hid (B_2.out.trans (b3.mono B_2.out.size))
  clear b3
  have x0_KB_3 := KB_3.out.cell 0; have x1_KB_3 := KB_3.out.cell 1
  simp at x0_KB_3 x1_KB_3
  go_wp2_with fail
  refine (mB.out _).mono ?_
  rintro e w4 ⟨rfl, b4⟩
  have KA_4 := Lib.hid (KA_3.out.below b4 KA_3.out.lt)
  have KB_4 := Lib.hid (KB_3.out.below b4 KB_3.out.lt)
  have KC_4 := Lib.hid (KC_3.out.below b4 KC_3.out.lt)
  have B_4 := Lib.hid (B_3.out.trans (b4.mono B_3.out.size))
  clear b4
  have x0_KC_4 := KC_4.out.cell 0; have x1_KC_4 := KC_4.out.cell 1
  simp at x0_KC_4 x1_KC_4
  go_wp2_with fail
  refine (mC.out _).mono ?_
  rintro e w5 ⟨rfl, b5⟩
  have KA_5 := Lib.hid (KA_4.out.below b5 KA_4.out.lt)
  have KB_5 := Lib.hid (KB_4.out.below b5 KB_4.out.lt)
  have KC_5 := Lib.hid (KC_4.out.below b5 KC_4.out.lt)
  have B_5 := Lib.hid (B_4.out.trans (b5.mono B_4.out.size))
  clear b5
  go_wp2_with fail
  refine region_still (by kernel_rfl) [.int .i64 (-1), .bool false, .bool false, undef, undef, undef, .bool false, .bool false, .int .i64 (-1), .agg #[.int .i64 an, .int .i64 ad], .agg #[.int .i64 ad, .int .i64 an], .agg #[.int .i64 bn, .int .i64 bd], .agg #[.int .i64 bd, .int .i64 bn], .int .i64 1, .int .i64 (-1), .bool false, .bool false, .bool false, .agg #[.int .i64 an, .int .i64 ad], .agg #[.int .i64 ad, .int .i64 an], .agg #[.int .i64 an, .int .i64 ad], .agg #[.int .i64 an, .int .i64 ad], .bool false, .bool false]
    (fun w' => Below w5.heap.size w5 w') (by kernel_rfl) (Below.refl _ _).drew ?_
  intro af haf
  simp only [puts, Act.put, List.getD_cons_zero, List.getD_cons_succ, List.setIfInBounds_toArray, List.set_cons_succ, List.set_cons_zero] at haf
  subst haf
  refine ⟨?_, ?_⟩
  · simp only [EachTo]
    refine ⟨?_, ?_, ?_, ?_, ?_, ?_, ?_, ?_, ?_, ?_, ?_, ?_, ?_, ?_, ?_, ?_, ?_, ?_, ?_, ?_, ?_, ?_, ?_, ?_, trivial⟩
    · intro w' hS
      refine OpTo.plain ?_ ?_
      exact rfl
      have HS := Lib.hid hS
      clear hS
      go_wp2_with fail
      all_goals first | exact HS.out | exact ⟨rfl, HS.out⟩ | rfl
    · intro w' hS
      refine OpTo.plain ?_ ?_
      exact rfl
      have HS := Lib.hid hS
      clear hS
      go_wp2_with fail
      all_goals first | exact HS.out | exact ⟨rfl, HS.out⟩ | rfl
    · intro w' hS
      refine OpTo.plain ?_ ?_
      exact rfl
      have HS := Lib.hid hS
      clear hS
      go_wp2_with fail
      all_goals first | exact HS.out | exact ⟨rfl, HS.out⟩ | rfl
    · intro w' hS
      refine OpTo.passed (by kernel_rfl) rfl hS
    · intro w' hS
      refine OpTo.passed (by kernel_rfl) rfl hS
    · intro w' hS
      refine OpTo.passed (by kernel_rfl) rfl hS
    · intro w' hS
      refine OpTo.plain ?_ ?_
      exact rfl
      have HS := Lib.hid hS
      clear hS
      go_wp2_with fail
      all_goals first | exact HS.out | exact ⟨rfl, HS.out⟩ | rfl
    · intro w' hS
      refine OpTo.plain ?_ ?_
      exact rfl
      have HS := Lib.hid hS
      clear hS
      go_wp2_with fail
      all_goals first | exact HS.out | exact ⟨rfl, HS.out⟩ | rfl
    · intro w' hS
      refine OpTo.wanted ?_ ?_
      kernel_rfl
      have HS := Lib.hid hS
      clear hS
      go_wp2_with fail
      all_goals first | exact HS.out | exact ⟨rfl, HS.out⟩ | rfl
    · intro w' hS
      refine OpTo.wanted ?_ ?_
      kernel_rfl
      have d0 := (KA_5.out.below hS KA_5.out.lt).cell 0; have e0 := (KA_5.out.below hS KA_5.out.lt).cell 1
      simp at d0 e0
      have HS := Lib.hid hS
      clear hS
      go_wp2_with fail
      all_goals first | exact HS.out | exact ⟨rfl, HS.out⟩ | rfl
    · intro w' hS
      refine OpTo.wanted ?_ ?_
      kernel_rfl
      have HS := Lib.hid hS
      clear hS
      go_wp2_with fail
      refine (iA.out w').mono ?_
      rintro e w'' ⟨rfl, hb2⟩
      exact ⟨rfl, andB HS.out hb2⟩
    · intro w' hS
      refine OpTo.wanted ?_ ?_
      kernel_rfl
      have d0 := (KB_5.out.below hS KB_5.out.lt).cell 0; have e0 := (KB_5.out.below hS KB_5.out.lt).cell 1
      simp at d0 e0
      have HS := Lib.hid hS
      clear hS
      go_wp2_with fail
      all_goals first | exact HS.out | exact ⟨rfl, HS.out⟩ | rfl
    · intro w' hS
      refine OpTo.wanted ?_ ?_
      kernel_rfl
      have HS := Lib.hid hS
      clear hS
      go_wp2_with fail
      refine (iB.out w').mono ?_
      rintro e w'' ⟨rfl, hb2⟩
      exact ⟨rfl, andB HS.out hb2⟩
    · intro w' hS
      refine OpTo.wanted ?_ ?_
      kernel_rfl
      have HS := Lib.hid hS
      clear hS
      go_wp2_with fail
      refine (cI.out w').mono ?_
      rintro e w'' ⟨rfl, hb2⟩
      exact ⟨rfl, andB HS.out hb2⟩
    · intro w' hS
      refine OpTo.wanted ?_ ?_
      kernel_rfl
      have HS := Lib.hid hS
      clear hS
      go_wp2_with fail
      all_goals first | exact HS.out | exact ⟨rfl, HS.out⟩ | rfl
    · intro w' hS
      refine OpTo.wanted ?_ ?_
      kernel_rfl
      have HS := Lib.hid hS
      clear hS
      go_wp2_with fail
      all_goals first | exact HS.out | exact ⟨rfl, HS.out⟩ | rfl
    · intro w' hS
      refine OpTo.plain ?_ ?_
      exact rfl
      have HS := Lib.hid hS
      clear hS
      go_wp2_with fail
      all_goals first | exact HS.out | exact ⟨rfl, HS.out⟩ | rfl
    · intro w' hS
      refine OpTo.plain ?_ ?_
      exact rfl
      have HS := Lib.hid hS
      clear hS
      go_wp2_with fail
      all_goals first | exact HS.out | exact ⟨rfl, HS.out⟩ | rfl
    · intro w' hS
      refine OpTo.wanted ?_ ?_
      kernel_rfl
      have d0 := (KA_5.out.below hS KA_5.out.lt).cell 0; have e0 := (KA_5.out.below hS KA_5.out.lt).cell 1
      simp at d0 e0
      have HS := Lib.hid hS
      clear hS
      go_wp2_with fail
      all_goals first | exact HS.out | exact ⟨rfl, HS.out⟩ | rfl
    · intro w' hS
      refine OpTo.wanted ?_ ?_
      kernel_rfl
      have HS := Lib.hid hS
      clear hS
      go_wp2_with fail
      refine (iA.out w').mono ?_
      rintro e w'' ⟨rfl, hb2⟩
      exact ⟨rfl, andB HS.out hb2⟩
    · intro w' hS
      refine OpTo.wanted ?_ ?_
      kernel_rfl
      have HS := Lib.hid hS
      clear hS
      go_wp2_with fail
      refine (iAA.out w').mono ?_
      rintro e w'' ⟨rfl, hb2⟩
      exact ⟨rfl, andB HS.out hb2⟩
    · intro w' hS
      refine OpTo.wanted ?_ ?_
      kernel_rfl
      have d0 := (KA_5.out.below hS KA_5.out.lt).cell 0; have e0 := (KA_5.out.below hS KA_5.out.lt).cell 1
      simp at d0 e0
      have HS := Lib.hid hS
      clear hS
      go_wp2_with fail
      all_goals first | exact HS.out | exact ⟨rfl, HS.out⟩ | rfl
    · intro w' hS
      refine OpTo.wanted ?_ ?_
      kernel_rfl
      have HS := Lib.hid hS
      clear hS
      go_wp2_with fail
      all_goals first | exact HS.out | exact ⟨rfl, HS.out⟩ | rfl
    · intro w' hS
      refine OpTo.plain ?_ ?_
      exact rfl
      have HS := Lib.hid hS
      clear hS
      go_wp2_with fail
      all_goals first | exact HS.out | exact ⟨rfl, HS.out⟩ | rfl
  intro w' hS
  have KA' := Lib.hid (KA_5.out.below hS KA_5.out.lt); have KB' := Lib.hid (KB_5.out.below hS KB_5.out.lt); have KC' := Lib.hid (KC_5.out.below hS KC_5.out.lt)
  have B' := Lib.hid (B_5.out.trans (hS.mono B_5.out.size))
  clear hS
  have x0_KB_20 := KB'.out.cell 0; have x1_KB_20 := KB'.out.cell 1
  simp at x0_KB_20 x1_KB_20
  have x0_KC_20 := KC'.out.cell 0; have x1_KC_20 := KC'.out.cell 1
  simp at x0_KC_20 x1_KC_20
  rcases hpq with hp | ⟨hp, hq⟩
  · have hp' : decide (p ≤ 0) = false := by simpa using hp
    go_wp2_with fail
    refine (cbc.out _).mono ?_
    rintro e w31 ⟨rfl, b31⟩
    have KA_31 := Lib.hid (KA'.out.below b31 KA'.out.lt)
    have KB_31 := Lib.hid (KB'.out.below b31 KB'.out.lt)
    have KC_31 := Lib.hid (KC'.out.below b31 KC'.out.lt)
    have B_31 := Lib.hid (B'.out.trans (b31.mono B'.out.size))
    clear b31
    go_wp2_with fail
    refine (l.out _).mono ?_
    rintro e w32 ⟨rfl, b32⟩
    have KA_32 := Lib.hid (KA_31.out.below b32 KA_31.out.lt)
    have KB_32 := Lib.hid (KB_31.out.below b32 KB_31.out.lt)
    have KC_32 := Lib.hid (KC_31.out.below b32 KC_31.out.lt)
    have B_32 := Lib.hid (B_31.out.trans (b32.mono B_31.out.size))
    clear b32
    go_wp2_with fail
    go_ret
    exact ⟨rfl, B_32.out⟩
  · have hq' : decide (0 < q) = false := by simpa using hq
    go_wp2_with fail
    refine (cbc.out _).mono ?_
    rintro e w41 ⟨rfl, b41⟩
    have KA_41 := Lib.hid (KA'.out.below b41 KA'.out.lt)
    have KB_41 := Lib.hid (KB'.out.below b41 KB'.out.lt)
    have KC_41 := Lib.hid (KC'.out.below b41 KC'.out.lt)
    have B_41 := Lib.hid (B'.out.trans (b41.mono B'.out.size))
    clear b41
    have x0_KA_41 := KA_41.out.cell 0; have x1_KA_41 := KA_41.out.cell 1
    simp at x0_KA_41 x1_KA_41
    have x0_KC_41 := KC_41.out.cell 0; have x1_KC_41 := KC_41.out.cell 1
    simp at x0_KC_41 x1_KC_41
    go_wp2_with fail
    refine (cac.out _).mono ?_
    rintro e w42 ⟨rfl, b42⟩
    have KA_42 := Lib.hid (KA_41.out.below b42 KA_41.out.lt)
    have KB_42 := Lib.hid (KB_41.out.below b42 KB_41.out.lt)
    have KC_42 := Lib.hid (KC_41.out.below b42 KC_41.out.lt)
    have B_42 := Lib.hid (B_41.out.trans (b42.mono B_41.out.size))
    clear b42
    go_wp2_with fail
    refine (l.out _).mono ?_
    rintro e w43 ⟨rfl, b43⟩
    have KA_43 := Lib.hid (KA_42.out.below b43 KA_42.out.lt)
    have KB_43 := Lib.hid (KB_42.out.below b43 KB_42.out.lt)
    have KC_43 := Lib.hid (KC_42.out.below b43 KC_42.out.lt)
    have B_43 := Lib.hid (B_42.out.trans (b43.mono B_42.out.size))
    clear b43
    go_wp2_with fail
    go_ret
    exact ⟨rfl, B_43.out⟩
set_option maxHeartbeats 8000000 in
set_option maxRecDepth 100000 in
theorem order_notc_z (an ad bn bd cn cd : Int) (w : World)
    (cab : Hid (∀ w, Calls Try.prog 16 #[.agg #[.int .i64 an, .int .i64 ad], .agg #[.int .i64 bn, .int .i64 bd]] w fun e w' => e = .returned (.int .i64 0) ∧ Below w.heap.size w w'))
    (cba : Hid (∀ w, Calls Try.prog 16 #[.agg #[.int .i64 bn, .int .i64 bd], .agg #[.int .i64 an, .int .i64 ad]] w fun e w' => e = .returned (.int .i64 0) ∧ Below w.heap.size w w'))
    (mA : Hid (∀ w, Calls Try.prog 11 #[.agg #[.int .i64 an, .int .i64 ad]] w fun e w' => e = .returned (.bool true) ∧ Below w.heap.size w w'))
    (mB : Hid (∀ w, Calls Try.prog 11 #[.agg #[.int .i64 bn, .int .i64 bd]] w fun e w' => e = .returned (.bool true) ∧ Below w.heap.size w w'))
    (mC : Hid (∀ w, Calls Try.prog 11 #[.agg #[.int .i64 cn, .int .i64 cd]] w fun e w' => e = .returned (.bool false) ∧ Below w.heap.size w w')) :
    Calls Try.prog 6 #[.agg #[.int .i64 an, .int .i64 ad], .agg #[.int .i64 bn, .int .i64 bd], .agg #[.int .i64 cn, .int .i64 cd]] w fun e w' => e = .returned (.bool true) ∧ Below w.heap.size w w' := by
  have l := Lib.hid lives02_any
  have k1 : Blk (((w.alloc (.cells #[.int .i64 an, .int .i64 ad] 23)).alloc (.cells #[.int .i64 bn, .int .i64 bd] 23)).alloc (.cells #[.int .i64 cn, .int .i64 cd] 23)) w.heap.size #[.int .i64 an, .int .i64 ad] 23 := ((Blk.new _ _ _).alloc _).alloc _
  have k2 : Blk (((w.alloc (.cells #[.int .i64 an, .int .i64 ad] 23)).alloc (.cells #[.int .i64 bn, .int .i64 bd] 23)).alloc (.cells #[.int .i64 cn, .int .i64 cd] 23)) (w.heap.size + 1) #[.int .i64 bn, .int .i64 bd] 23 := (Blk.newAt _ _ _ (by simp)).alloc _
  have k3 : Blk (((w.alloc (.cells #[.int .i64 an, .int .i64 ad] 23)).alloc (.cells #[.int .i64 bn, .int .i64 bd] 23)).alloc (.cells #[.int .i64 cn, .int .i64 cd] 23)) (w.heap.size + 1 + 1) #[.int .i64 cn, .int .i64 cd] 23 := Blk.newAt _ _ _ (by simp)
  have b0 : Below w.heap.size w (((w.alloc (.cells #[.int .i64 an, .int .i64 ad] 23)).alloc (.cells #[.int .i64 bn, .int .i64 bd] 23)).alloc (.cells #[.int .i64 cn, .int .i64 cd] 23)) := (((Below.refl _ _).alloc (Nat.le_refl _) _).alloc (by simp) _).alloc (by simp; omega) _
  have KA := Lib.hid k1; have KB := Lib.hid k2; have KC := Lib.hid k3; have B0 := Lib.hid b0
  clear k1 k2 k3 b0
  go_enter Try.func6, Try.ntmps6
  go_wp2_with fail
  refine (cab.out _).mono ?_
  rintro e w1 ⟨rfl, b1⟩
  have KA_1 := Lib.hid (KA.out.below b1 KA.out.lt)
  have KB_1 := Lib.hid (KB.out.below b1 KB.out.lt)
  have KC_1 := Lib.hid (KC.out.below b1 KC.out.lt)
  have B_1 := Lib.hid (B0.out.trans (b1.mono B0.out.size))
  clear b1
  have x0_KA_1 := KA_1.out.cell 0; have x1_KA_1 := KA_1.out.cell 1
  simp at x0_KA_1 x1_KA_1
  have x0_KB_1 := KB_1.out.cell 0; have x1_KB_1 := KB_1.out.cell 1
  simp at x0_KB_1 x1_KB_1
  go_wp2_with fail
  refine (cba.out _).mono ?_
  rintro e w2 ⟨rfl, b2⟩
  have KA_2 := Lib.hid (KA_1.out.below b2 KA_1.out.lt)
  have KB_2 := Lib.hid (KB_1.out.below b2 KB_1.out.lt)
  have KC_2 := Lib.hid (KC_1.out.below b2 KC_1.out.lt)
  have B_2 := Lib.hid (B_1.out.trans (b2.mono B_1.out.size))
  clear b2
  have x0_KA_2 := KA_2.out.cell 0; have x1_KA_2 := KA_2.out.cell 1
  simp at x0_KA_2 x1_KA_2
  go_wp2_with fail
  refine (mA.out _).mono ?_
  rintro e w3 ⟨rfl, b3⟩
  have KA_3 := Lib.hid (KA_2.out.below b3 KA_2.out.lt)
  have KB_3 := Lib.hid (KB_2.out.below b3 KB_2.out.lt)
  have KC_3 := Lib.hid (KC_2.out.below b3 KC_2.out.lt)
  have B_3 := Lib.hid (B_2.out.trans (b3.mono B_2.out.size))
  clear b3
  have x0_KB_3 := KB_3.out.cell 0; have x1_KB_3 := KB_3.out.cell 1
  simp at x0_KB_3 x1_KB_3
  go_wp2_with fail
  refine (mB.out _).mono ?_
  rintro e w4 ⟨rfl, b4⟩
  have KA_4 := Lib.hid (KA_3.out.below b4 KA_3.out.lt)
  have KB_4 := Lib.hid (KB_3.out.below b4 KB_3.out.lt)
  have KC_4 := Lib.hid (KC_3.out.below b4 KC_3.out.lt)
  have B_4 := Lib.hid (B_3.out.trans (b4.mono B_3.out.size))
  clear b4
  have x0_KC_4 := KC_4.out.cell 0; have x1_KC_4 := KC_4.out.cell 1
  simp at x0_KC_4 x1_KC_4
  go_wp2_with fail
  refine (mC.out _).mono ?_
  rintro e w5 ⟨rfl, b5⟩
  have KA_5 := Lib.hid (KA_4.out.below b5 KA_4.out.lt)
  have KB_5 := Lib.hid (KB_4.out.below b5 KB_4.out.lt)
  have KC_5 := Lib.hid (KC_4.out.below b5 KC_4.out.lt)
  have B_5 := Lib.hid (B_4.out.trans (b5.mono B_4.out.size))
  clear b5
  go_wp2_with fail
  refine (l.out _).mono ?_
  rintro e w6 ⟨rfl, b6⟩
  have KA_6 := Lib.hid (KA_5.out.below b6 KA_5.out.lt)
  have KB_6 := Lib.hid (KB_5.out.below b6 KB_5.out.lt)
  have KC_6 := Lib.hid (KC_5.out.below b6 KC_5.out.lt)
  have B_6 := Lib.hid (B_5.out.trans (b6.mono B_5.out.size))
  clear b6
  go_wp2_with fail
  go_ret
  exact ⟨rfl, B_6.out⟩
set_option maxHeartbeats 8000000 in
set_option maxRecDepth 100000 in
theorem order_all_z (an ad cn cd : Int) (p q : Int) (hpq : 0 < p ∨ (p ≤ 0 ∧ q ≤ 0)) (w : World)
    (cab : Hid (∀ w, Calls Try.prog 16 #[.agg #[.int .i64 an, .int .i64 ad], .agg #[.int .i64 an, .int .i64 ad]] w fun e w' => e = .returned (.int .i64 0) ∧ Below w.heap.size w w'))
    (cba : Hid (∀ w, Calls Try.prog 16 #[.agg #[.int .i64 an, .int .i64 ad], .agg #[.int .i64 an, .int .i64 ad]] w fun e w' => e = .returned (.int .i64 0) ∧ Below w.heap.size w w'))
    (mA : Hid (∀ w, Calls Try.prog 11 #[.agg #[.int .i64 an, .int .i64 ad]] w fun e w' => e = .returned (.bool true) ∧ Below w.heap.size w w'))
    (mB : Hid (∀ w, Calls Try.prog 11 #[.agg #[.int .i64 an, .int .i64 ad]] w fun e w' => e = .returned (.bool true) ∧ Below w.heap.size w w'))
    (mC : Hid (∀ w, Calls Try.prog 11 #[.agg #[.int .i64 cn, .int .i64 cd]] w fun e w' => e = .returned (.bool true) ∧ Below w.heap.size w w'))
    (iA : Hid (∀ w, Calls Try.prog 13 #[.agg #[.int .i64 an, .int .i64 ad]] w fun e w' => e = .returned (.agg #[.int .i64 ad, .int .i64 an]) ∧ Below w.heap.size w w'))
    (iAA : Hid (∀ w, Calls Try.prog 13 #[.agg #[.int .i64 ad, .int .i64 an]] w fun e w' => e = .returned (.agg #[.int .i64 an, .int .i64 ad]) ∧ Below w.heap.size w w'))
    (cI : Hid (∀ w, Calls Try.prog 16 #[.agg #[.int .i64 ad, .int .i64 an], .agg #[.int .i64 ad, .int .i64 an]] w fun e w' => e = .returned (.int .i64 0) ∧ Below w.heap.size w w'))
    (cbc : Hid (∀ w, Calls Try.prog 16 #[.agg #[.int .i64 an, .int .i64 ad], .agg #[.int .i64 cn, .int .i64 cd]] w fun e w' => e = .returned (.int .i64 p) ∧ Below w.heap.size w w'))
    (cac : Hid (∀ w, Calls Try.prog 16 #[.agg #[.int .i64 an, .int .i64 ad], .agg #[.int .i64 cn, .int .i64 cd]] w fun e w' => e = .returned (.int .i64 q) ∧ Below w.heap.size w w')) :
    Calls Try.prog 6 #[.agg #[.int .i64 an, .int .i64 ad], .agg #[.int .i64 an, .int .i64 ad], .agg #[.int .i64 cn, .int .i64 cd]] w fun e w' => e = .returned (.bool true) ∧ Below w.heap.size w w' := by
  have l := Lib.hid lives02_any
  have k1 : Blk (((w.alloc (.cells #[.int .i64 an, .int .i64 ad] 23)).alloc (.cells #[.int .i64 an, .int .i64 ad] 23)).alloc (.cells #[.int .i64 cn, .int .i64 cd] 23)) w.heap.size #[.int .i64 an, .int .i64 ad] 23 := ((Blk.new _ _ _).alloc _).alloc _
  have k2 : Blk (((w.alloc (.cells #[.int .i64 an, .int .i64 ad] 23)).alloc (.cells #[.int .i64 an, .int .i64 ad] 23)).alloc (.cells #[.int .i64 cn, .int .i64 cd] 23)) (w.heap.size + 1) #[.int .i64 an, .int .i64 ad] 23 := (Blk.newAt _ _ _ (by simp)).alloc _
  have k3 : Blk (((w.alloc (.cells #[.int .i64 an, .int .i64 ad] 23)).alloc (.cells #[.int .i64 an, .int .i64 ad] 23)).alloc (.cells #[.int .i64 cn, .int .i64 cd] 23)) (w.heap.size + 1 + 1) #[.int .i64 cn, .int .i64 cd] 23 := Blk.newAt _ _ _ (by simp)
  have b0 : Below w.heap.size w (((w.alloc (.cells #[.int .i64 an, .int .i64 ad] 23)).alloc (.cells #[.int .i64 an, .int .i64 ad] 23)).alloc (.cells #[.int .i64 cn, .int .i64 cd] 23)) := (((Below.refl _ _).alloc (Nat.le_refl _) _).alloc (by simp) _).alloc (by simp; omega) _
  have KA := Lib.hid k1; have KB := Lib.hid k2; have KC := Lib.hid k3; have B0 := Lib.hid b0
  clear k1 k2 k3 b0
  go_enter Try.func6, Try.ntmps6
  go_wp2_with fail
  refine (cab.out _).mono ?_
  rintro e w1 ⟨rfl, b1⟩
  have KA_1 := Lib.hid (KA.out.below b1 KA.out.lt)
  have KB_1 := Lib.hid (KB.out.below b1 KB.out.lt)
  have KC_1 := Lib.hid (KC.out.below b1 KC.out.lt)
  have B_1 := Lib.hid (B0.out.trans (b1.mono B0.out.size))
  clear b1
  have x0_KA_1 := KA_1.out.cell 0; have x1_KA_1 := KA_1.out.cell 1
  simp at x0_KA_1 x1_KA_1
  have x0_KB_1 := KB_1.out.cell 0; have x1_KB_1 := KB_1.out.cell 1
  simp at x0_KB_1 x1_KB_1
  go_wp2_with fail
  refine (cba.out _).mono ?_
  rintro e w2 ⟨rfl, b2⟩
  have KA_2 := Lib.hid (KA_1.out.below b2 KA_1.out.lt)
  have KB_2 := Lib.hid (KB_1.out.below b2 KB_1.out.lt)
  have KC_2 := Lib.hid (KC_1.out.below b2 KC_1.out.lt)
  have B_2 := Lib.hid (B_1.out.trans (b2.mono B_1.out.size))
  clear b2
  have x0_KA_2 := KA_2.out.cell 0; have x1_KA_2 := KA_2.out.cell 1
  simp at x0_KA_2 x1_KA_2
  go_wp2_with fail
  refine (mA.out _).mono ?_
  rintro e w3 ⟨rfl, b3⟩
  have KA_3 := Lib.hid (KA_2.out.below b3 KA_2.out.lt)
  have KB_3 := Lib.hid (KB_2.out.below b3 KB_2.out.lt)
  have KC_3 := Lib.hid (KC_2.out.below b3 KC_2.out.lt)
  have B_3 := Lib.hid (B_2.out.trans (b3.mono B_2.out.size))
  clear b3
  have x0_KB_3 := KB_3.out.cell 0; have x1_KB_3 := KB_3.out.cell 1
  simp at x0_KB_3 x1_KB_3
  go_wp2_with fail
  refine (mB.out _).mono ?_
  rintro e w4 ⟨rfl, b4⟩
  have KA_4 := Lib.hid (KA_3.out.below b4 KA_3.out.lt)
  have KB_4 := Lib.hid (KB_3.out.below b4 KB_3.out.lt)
  have KC_4 := Lib.hid (KC_3.out.below b4 KC_3.out.lt)
  have B_4 := Lib.hid (B_3.out.trans (b4.mono B_3.out.size))
  clear b4
  have x0_KC_4 := KC_4.out.cell 0; have x1_KC_4 := KC_4.out.cell 1
  simp at x0_KC_4 x1_KC_4
  go_wp2_with fail
  refine (mC.out _).mono ?_
  rintro e w5 ⟨rfl, b5⟩
  have KA_5 := Lib.hid (KA_4.out.below b5 KA_4.out.lt)
  have KB_5 := Lib.hid (KB_4.out.below b5 KB_4.out.lt)
  have KC_5 := Lib.hid (KC_4.out.below b5 KC_4.out.lt)
  have B_5 := Lib.hid (B_4.out.trans (b5.mono B_4.out.size))
  clear b5
  go_wp2_with fail
  refine region_still (by kernel_rfl) [.int .i64 0, .bool true, .bool true, .agg #[.int .i64 an, .int .i64 ad], .agg #[.int .i64 an, .int .i64 ad], .bool false, .bool false, .bool false, .int .i64 0, .agg #[.int .i64 an, .int .i64 ad], .agg #[.int .i64 ad, .int .i64 an], .agg #[.int .i64 an, .int .i64 ad], .agg #[.int .i64 ad, .int .i64 an], .int .i64 0, .int .i64 0, .bool false, .bool false, .bool false, .agg #[.int .i64 an, .int .i64 ad], .agg #[.int .i64 ad, .int .i64 an], .agg #[.int .i64 an, .int .i64 ad], .agg #[.int .i64 an, .int .i64 ad], .bool false, .bool false]
    (fun w' => Below w5.heap.size w5 w') (by kernel_rfl) (Below.refl _ _).drew ?_
  intro af haf
  simp only [puts, Act.put, List.getD_cons_zero, List.getD_cons_succ, List.setIfInBounds_toArray, List.set_cons_succ, List.set_cons_zero] at haf
  subst haf
  refine ⟨?_, ?_⟩
  · simp only [EachTo]
    refine ⟨?_, ?_, ?_, ?_, ?_, ?_, ?_, ?_, ?_, ?_, ?_, ?_, ?_, ?_, ?_, ?_, ?_, ?_, ?_, ?_, ?_, ?_, ?_, ?_, trivial⟩
    · intro w' hS
      refine OpTo.plain ?_ ?_
      exact rfl
      have HS := Lib.hid hS
      clear hS
      go_wp2_with fail
      all_goals first | exact HS.out | exact ⟨rfl, HS.out⟩ | rfl
    · intro w' hS
      refine OpTo.plain ?_ ?_
      exact rfl
      have HS := Lib.hid hS
      clear hS
      go_wp2_with fail
      all_goals first | exact HS.out | exact ⟨rfl, HS.out⟩ | rfl
    · intro w' hS
      refine OpTo.plain ?_ ?_
      exact rfl
      have HS := Lib.hid hS
      clear hS
      go_wp2_with fail
      all_goals first | exact HS.out | exact ⟨rfl, HS.out⟩ | rfl
    · intro w' hS
      refine OpTo.wanted ?_ ?_
      kernel_rfl
      have d0 := (KA_5.out.below hS KA_5.out.lt).cell 0; have e0 := (KA_5.out.below hS KA_5.out.lt).cell 1
      simp at d0 e0
      have HS := Lib.hid hS
      clear hS
      go_wp2_with fail
      all_goals first | exact HS.out | exact ⟨rfl, HS.out⟩ | rfl
    · intro w' hS
      refine OpTo.wanted ?_ ?_
      kernel_rfl
      have d0 := (KB_5.out.below hS KB_5.out.lt).cell 0; have e0 := (KB_5.out.below hS KB_5.out.lt).cell 1
      simp at d0 e0
      have HS := Lib.hid hS
      clear hS
      go_wp2_with fail
      all_goals first | exact HS.out | exact ⟨rfl, HS.out⟩ | rfl
    · intro w' hS
      refine OpTo.wanted ?_ ?_
      kernel_rfl
      have HS := Lib.hid hS
      clear hS
      go_wp2_with fail
      all_goals first | exact HS.out | exact ⟨rfl, HS.out⟩ | rfl
    · intro w' hS
      refine OpTo.plain ?_ ?_
      exact rfl
      have HS := Lib.hid hS
      clear hS
      go_wp2_with fail
      all_goals first | exact HS.out | exact ⟨rfl, HS.out⟩ | rfl
    · intro w' hS
      refine OpTo.plain ?_ ?_
      exact rfl
      have HS := Lib.hid hS
      clear hS
      go_wp2_with fail
      all_goals first | exact HS.out | exact ⟨rfl, HS.out⟩ | rfl
    · intro w' hS
      refine OpTo.wanted ?_ ?_
      kernel_rfl
      have HS := Lib.hid hS
      clear hS
      go_wp2_with fail
      all_goals first | exact HS.out | exact ⟨rfl, HS.out⟩ | rfl
    · intro w' hS
      refine OpTo.wanted ?_ ?_
      kernel_rfl
      have d0 := (KA_5.out.below hS KA_5.out.lt).cell 0; have e0 := (KA_5.out.below hS KA_5.out.lt).cell 1
      simp at d0 e0
      have HS := Lib.hid hS
      clear hS
      go_wp2_with fail
      all_goals first | exact HS.out | exact ⟨rfl, HS.out⟩ | rfl
    · intro w' hS
      refine OpTo.wanted ?_ ?_
      kernel_rfl
      have HS := Lib.hid hS
      clear hS
      go_wp2_with fail
      refine (iA.out w').mono ?_
      rintro e w'' ⟨rfl, hb2⟩
      exact ⟨rfl, andB HS.out hb2⟩
    · intro w' hS
      refine OpTo.wanted ?_ ?_
      kernel_rfl
      have d0 := (KB_5.out.below hS KB_5.out.lt).cell 0; have e0 := (KB_5.out.below hS KB_5.out.lt).cell 1
      simp at d0 e0
      have HS := Lib.hid hS
      clear hS
      go_wp2_with fail
      all_goals first | exact HS.out | exact ⟨rfl, HS.out⟩ | rfl
    · intro w' hS
      refine OpTo.wanted ?_ ?_
      kernel_rfl
      have HS := Lib.hid hS
      clear hS
      go_wp2_with fail
      refine (iA.out w').mono ?_
      rintro e w'' ⟨rfl, hb2⟩
      exact ⟨rfl, andB HS.out hb2⟩
    · intro w' hS
      refine OpTo.wanted ?_ ?_
      kernel_rfl
      have HS := Lib.hid hS
      clear hS
      go_wp2_with fail
      refine (cI.out w').mono ?_
      rintro e w'' ⟨rfl, hb2⟩
      exact ⟨rfl, andB HS.out hb2⟩
    · intro w' hS
      refine OpTo.wanted ?_ ?_
      kernel_rfl
      have HS := Lib.hid hS
      clear hS
      go_wp2_with fail
      all_goals first | exact HS.out | exact ⟨rfl, HS.out⟩ | rfl
    · intro w' hS
      refine OpTo.wanted ?_ ?_
      kernel_rfl
      have HS := Lib.hid hS
      clear hS
      go_wp2_with fail
      all_goals first | exact HS.out | exact ⟨rfl, HS.out⟩ | rfl
    · intro w' hS
      refine OpTo.plain ?_ ?_
      exact rfl
      have HS := Lib.hid hS
      clear hS
      go_wp2_with fail
      all_goals first | exact HS.out | exact ⟨rfl, HS.out⟩ | rfl
    · intro w' hS
      refine OpTo.plain ?_ ?_
      exact rfl
      have HS := Lib.hid hS
      clear hS
      go_wp2_with fail
      all_goals first | exact HS.out | exact ⟨rfl, HS.out⟩ | rfl
    · intro w' hS
      refine OpTo.wanted ?_ ?_
      kernel_rfl
      have d0 := (KA_5.out.below hS KA_5.out.lt).cell 0; have e0 := (KA_5.out.below hS KA_5.out.lt).cell 1
      simp at d0 e0
      have HS := Lib.hid hS
      clear hS
      go_wp2_with fail
      all_goals first | exact HS.out | exact ⟨rfl, HS.out⟩ | rfl
    · intro w' hS
      refine OpTo.wanted ?_ ?_
      kernel_rfl
      have HS := Lib.hid hS
      clear hS
      go_wp2_with fail
      refine (iA.out w').mono ?_
      rintro e w'' ⟨rfl, hb2⟩
      exact ⟨rfl, andB HS.out hb2⟩
    · intro w' hS
      refine OpTo.wanted ?_ ?_
      kernel_rfl
      have HS := Lib.hid hS
      clear hS
      go_wp2_with fail
      refine (iAA.out w').mono ?_
      rintro e w'' ⟨rfl, hb2⟩
      exact ⟨rfl, andB HS.out hb2⟩
    · intro w' hS
      refine OpTo.wanted ?_ ?_
      kernel_rfl
      have d0 := (KA_5.out.below hS KA_5.out.lt).cell 0; have e0 := (KA_5.out.below hS KA_5.out.lt).cell 1
      simp at d0 e0
      have HS := Lib.hid hS
      clear hS
      go_wp2_with fail
      all_goals first | exact HS.out | exact ⟨rfl, HS.out⟩ | rfl
    · intro w' hS
      refine OpTo.wanted ?_ ?_
      kernel_rfl
      have HS := Lib.hid hS
      clear hS
      go_wp2_with fail
      all_goals first | exact HS.out | exact ⟨rfl, HS.out⟩ | rfl
    · intro w' hS
      refine OpTo.plain ?_ ?_
      exact rfl
      have HS := Lib.hid hS
      clear hS
      go_wp2_with fail
      all_goals first | exact HS.out | exact ⟨rfl, HS.out⟩ | rfl
  intro w' hS
  have KA' := Lib.hid (KA_5.out.below hS KA_5.out.lt); have KB' := Lib.hid (KB_5.out.below hS KB_5.out.lt); have KC' := Lib.hid (KC_5.out.below hS KC_5.out.lt)
  have B' := Lib.hid (B_5.out.trans (hS.mono B_5.out.size))
  clear hS
  have x0_KB_20 := KB'.out.cell 0; have x1_KB_20 := KB'.out.cell 1
  simp at x0_KB_20 x1_KB_20
  have x0_KC_20 := KC'.out.cell 0; have x1_KC_20 := KC'.out.cell 1
  simp at x0_KC_20 x1_KC_20
  rcases hpq with hp | ⟨hp, hq⟩
  · have hp' : decide (p ≤ 0) = false := by simpa using hp
    go_wp2_with fail
    refine (cbc.out _).mono ?_
    rintro e w31 ⟨rfl, b31⟩
    have KA_31 := Lib.hid (KA'.out.below b31 KA'.out.lt)
    have KB_31 := Lib.hid (KB'.out.below b31 KB'.out.lt)
    have KC_31 := Lib.hid (KC'.out.below b31 KC'.out.lt)
    have B_31 := Lib.hid (B'.out.trans (b31.mono B'.out.size))
    clear b31
    go_wp2_with fail
    refine (l.out _).mono ?_
    rintro e w32 ⟨rfl, b32⟩
    have KA_32 := Lib.hid (KA_31.out.below b32 KA_31.out.lt)
    have KB_32 := Lib.hid (KB_31.out.below b32 KB_31.out.lt)
    have KC_32 := Lib.hid (KC_31.out.below b32 KC_31.out.lt)
    have B_32 := Lib.hid (B_31.out.trans (b32.mono B_31.out.size))
    clear b32
    go_wp2_with fail
    go_ret
    exact ⟨rfl, B_32.out⟩
  · have hq' : decide (0 < q) = false := by simpa using hq
    go_wp2_with fail
    refine (cbc.out _).mono ?_
    rintro e w41 ⟨rfl, b41⟩
    have KA_41 := Lib.hid (KA'.out.below b41 KA'.out.lt)
    have KB_41 := Lib.hid (KB'.out.below b41 KB'.out.lt)
    have KC_41 := Lib.hid (KC'.out.below b41 KC'.out.lt)
    have B_41 := Lib.hid (B'.out.trans (b41.mono B'.out.size))
    clear b41
    have x0_KA_41 := KA_41.out.cell 0; have x1_KA_41 := KA_41.out.cell 1
    simp at x0_KA_41 x1_KA_41
    have x0_KC_41 := KC_41.out.cell 0; have x1_KC_41 := KC_41.out.cell 1
    simp at x0_KC_41 x1_KC_41
    go_wp2_with fail
    refine (cac.out _).mono ?_
    rintro e w42 ⟨rfl, b42⟩
    have KA_42 := Lib.hid (KA_41.out.below b42 KA_41.out.lt)
    have KB_42 := Lib.hid (KB_41.out.below b42 KB_41.out.lt)
    have KC_42 := Lib.hid (KC_41.out.below b42 KC_41.out.lt)
    have B_42 := Lib.hid (B_41.out.trans (b42.mono B_41.out.size))
    clear b42
    go_wp2_with fail
    refine (l.out _).mono ?_
    rintro e w43 ⟨rfl, b43⟩
    have KA_43 := Lib.hid (KA_42.out.below b43 KA_42.out.lt)
    have KB_43 := Lib.hid (KB_42.out.below b43 KB_42.out.lt)
    have KC_43 := Lib.hid (KC_42.out.below b43 KC_42.out.lt)
    have B_43 := Lib.hid (B_42.out.trans (b43.mono B_42.out.size))
    clear b43
    go_wp2_with fail
    go_ret
    exact ⟨rfl, B_43.out⟩
set_option maxHeartbeats 8000000 in
set_option maxRecDepth 100000 in
theorem order_notc_p (an ad bn bd cn cd : Int) (w : World)
    (cab : Hid (∀ w, Calls Try.prog 16 #[.agg #[.int .i64 an, .int .i64 ad], .agg #[.int .i64 bn, .int .i64 bd]] w fun e w' => e = .returned (.int .i64 1) ∧ Below w.heap.size w w'))
    (cba : Hid (∀ w, Calls Try.prog 16 #[.agg #[.int .i64 bn, .int .i64 bd], .agg #[.int .i64 an, .int .i64 ad]] w fun e w' => e = .returned (.int .i64 (-1)) ∧ Below w.heap.size w w'))
    (mA : Hid (∀ w, Calls Try.prog 11 #[.agg #[.int .i64 an, .int .i64 ad]] w fun e w' => e = .returned (.bool true) ∧ Below w.heap.size w w'))
    (mB : Hid (∀ w, Calls Try.prog 11 #[.agg #[.int .i64 bn, .int .i64 bd]] w fun e w' => e = .returned (.bool true) ∧ Below w.heap.size w w'))
    (mC : Hid (∀ w, Calls Try.prog 11 #[.agg #[.int .i64 cn, .int .i64 cd]] w fun e w' => e = .returned (.bool false) ∧ Below w.heap.size w w')) :
    Calls Try.prog 6 #[.agg #[.int .i64 an, .int .i64 ad], .agg #[.int .i64 bn, .int .i64 bd], .agg #[.int .i64 cn, .int .i64 cd]] w fun e w' => e = .returned (.bool true) ∧ Below w.heap.size w w' := by
  have l := Lib.hid lives02_any
  have k1 : Blk (((w.alloc (.cells #[.int .i64 an, .int .i64 ad] 23)).alloc (.cells #[.int .i64 bn, .int .i64 bd] 23)).alloc (.cells #[.int .i64 cn, .int .i64 cd] 23)) w.heap.size #[.int .i64 an, .int .i64 ad] 23 := ((Blk.new _ _ _).alloc _).alloc _
  have k2 : Blk (((w.alloc (.cells #[.int .i64 an, .int .i64 ad] 23)).alloc (.cells #[.int .i64 bn, .int .i64 bd] 23)).alloc (.cells #[.int .i64 cn, .int .i64 cd] 23)) (w.heap.size + 1) #[.int .i64 bn, .int .i64 bd] 23 := (Blk.newAt _ _ _ (by simp)).alloc _
  have k3 : Blk (((w.alloc (.cells #[.int .i64 an, .int .i64 ad] 23)).alloc (.cells #[.int .i64 bn, .int .i64 bd] 23)).alloc (.cells #[.int .i64 cn, .int .i64 cd] 23)) (w.heap.size + 1 + 1) #[.int .i64 cn, .int .i64 cd] 23 := Blk.newAt _ _ _ (by simp)
  have b0 : Below w.heap.size w (((w.alloc (.cells #[.int .i64 an, .int .i64 ad] 23)).alloc (.cells #[.int .i64 bn, .int .i64 bd] 23)).alloc (.cells #[.int .i64 cn, .int .i64 cd] 23)) := (((Below.refl _ _).alloc (Nat.le_refl _) _).alloc (by simp) _).alloc (by simp; omega) _
  have KA := Lib.hid k1; have KB := Lib.hid k2; have KC := Lib.hid k3; have B0 := Lib.hid b0
  clear k1 k2 k3 b0
  go_enter Try.func6, Try.ntmps6
  go_wp2_with fail
  refine (cab.out _).mono ?_
  rintro e w1 ⟨rfl, b1⟩
  have KA_1 := Lib.hid (KA.out.below b1 KA.out.lt)
  have KB_1 := Lib.hid (KB.out.below b1 KB.out.lt)
  have KC_1 := Lib.hid (KC.out.below b1 KC.out.lt)
  have B_1 := Lib.hid (B0.out.trans (b1.mono B0.out.size))
  clear b1
  have x0_KA_1 := KA_1.out.cell 0; have x1_KA_1 := KA_1.out.cell 1
  simp at x0_KA_1 x1_KA_1
  have x0_KB_1 := KB_1.out.cell 0; have x1_KB_1 := KB_1.out.cell 1
  simp at x0_KB_1 x1_KB_1
  go_wp2_with fail
  refine (cba.out _).mono ?_
  rintro e w2 ⟨rfl, b2⟩
  have KA_2 := Lib.hid (KA_1.out.below b2 KA_1.out.lt)
  have KB_2 := Lib.hid (KB_1.out.below b2 KB_1.out.lt)
  have KC_2 := Lib.hid (KC_1.out.below b2 KC_1.out.lt)
  have B_2 := Lib.hid (B_1.out.trans (b2.mono B_1.out.size))
  clear b2
  have x0_KA_2 := KA_2.out.cell 0; have x1_KA_2 := KA_2.out.cell 1
  simp at x0_KA_2 x1_KA_2
  go_wp2_with fail
  refine (mA.out _).mono ?_
  rintro e w3 ⟨rfl, b3⟩
  have KA_3 := Lib.hid (KA_2.out.below b3 KA_2.out.lt)
  have KB_3 := Lib.hid (KB_2.out.below b3 KB_2.out.lt)
  have KC_3 := Lib.hid (KC_2.out.below b3 KC_2.out.lt)
  have B_3 := Lib.hid (B_2.out.trans (b3.mono B_2.out.size))
  clear b3
  have x0_KB_3 := KB_3.out.cell 0; have x1_KB_3 := KB_3.out.cell 1
  simp at x0_KB_3 x1_KB_3
  go_wp2_with fail
  refine (mB.out _).mono ?_
  rintro e w4 ⟨rfl, b4⟩
  have KA_4 := Lib.hid (KA_3.out.below b4 KA_3.out.lt)
  have KB_4 := Lib.hid (KB_3.out.below b4 KB_3.out.lt)
  have KC_4 := Lib.hid (KC_3.out.below b4 KC_3.out.lt)
  have B_4 := Lib.hid (B_3.out.trans (b4.mono B_3.out.size))
  clear b4
  have x0_KC_4 := KC_4.out.cell 0; have x1_KC_4 := KC_4.out.cell 1
  simp at x0_KC_4 x1_KC_4
  go_wp2_with fail
  refine (mC.out _).mono ?_
  rintro e w5 ⟨rfl, b5⟩
  have KA_5 := Lib.hid (KA_4.out.below b5 KA_4.out.lt)
  have KB_5 := Lib.hid (KB_4.out.below b5 KB_4.out.lt)
  have KC_5 := Lib.hid (KC_4.out.below b5 KC_4.out.lt)
  have B_5 := Lib.hid (B_4.out.trans (b5.mono B_4.out.size))
  clear b5
  have x0_KA_5 := KA_5.out.cell 0; have x1_KA_5 := KA_5.out.cell 1
  simp at x0_KA_5 x1_KA_5
  go_wp2_with fail
  refine (mA.out _).mono ?_
  rintro e w6 ⟨rfl, b6⟩
  have KA_6 := Lib.hid (KA_5.out.below b6 KA_5.out.lt)
  have KB_6 := Lib.hid (KB_5.out.below b6 KB_5.out.lt)
  have KC_6 := Lib.hid (KC_5.out.below b6 KC_5.out.lt)
  have B_6 := Lib.hid (B_5.out.trans (b6.mono B_5.out.size))
  clear b6
  have x0_KB_6 := KB_6.out.cell 0; have x1_KB_6 := KB_6.out.cell 1
  simp at x0_KB_6 x1_KB_6
  go_wp2_with fail
  refine (mB.out _).mono ?_
  rintro e w7 ⟨rfl, b7⟩
  have KA_7 := Lib.hid (KA_6.out.below b7 KA_6.out.lt)
  have KB_7 := Lib.hid (KB_6.out.below b7 KB_6.out.lt)
  have KC_7 := Lib.hid (KC_6.out.below b7 KC_6.out.lt)
  have B_7 := Lib.hid (B_6.out.trans (b7.mono B_6.out.size))
  clear b7
  go_wp2_with fail
  refine (l.out _).mono ?_
  rintro e w8 ⟨rfl, b8⟩
  have KA_8 := Lib.hid (KA_7.out.below b8 KA_7.out.lt)
  have KB_8 := Lib.hid (KB_7.out.below b8 KB_7.out.lt)
  have KC_8 := Lib.hid (KC_7.out.below b8 KC_7.out.lt)
  have B_8 := Lib.hid (B_7.out.trans (b8.mono B_7.out.size))
  clear b8
  go_wp2_with fail
  go_ret
  exact ⟨rfl, B_8.out⟩
set_option maxHeartbeats 8000000 in
set_option maxRecDepth 100000 in
theorem order_all_p (an ad bn bd cn cd : Int) (w : World)
    (cab : Hid (∀ w, Calls Try.prog 16 #[.agg #[.int .i64 an, .int .i64 ad], .agg #[.int .i64 bn, .int .i64 bd]] w fun e w' => e = .returned (.int .i64 1) ∧ Below w.heap.size w w'))
    (cba : Hid (∀ w, Calls Try.prog 16 #[.agg #[.int .i64 bn, .int .i64 bd], .agg #[.int .i64 an, .int .i64 ad]] w fun e w' => e = .returned (.int .i64 (-1)) ∧ Below w.heap.size w w'))
    (mA : Hid (∀ w, Calls Try.prog 11 #[.agg #[.int .i64 an, .int .i64 ad]] w fun e w' => e = .returned (.bool true) ∧ Below w.heap.size w w'))
    (mB : Hid (∀ w, Calls Try.prog 11 #[.agg #[.int .i64 bn, .int .i64 bd]] w fun e w' => e = .returned (.bool true) ∧ Below w.heap.size w w'))
    (mC : Hid (∀ w, Calls Try.prog 11 #[.agg #[.int .i64 cn, .int .i64 cd]] w fun e w' => e = .returned (.bool true) ∧ Below w.heap.size w w'))
    (iA : Hid (∀ w, Calls Try.prog 13 #[.agg #[.int .i64 an, .int .i64 ad]] w fun e w' => e = .returned (.agg #[.int .i64 ad, .int .i64 an]) ∧ Below w.heap.size w w'))
    (iAA : Hid (∀ w, Calls Try.prog 13 #[.agg #[.int .i64 ad, .int .i64 an]] w fun e w' => e = .returned (.agg #[.int .i64 an, .int .i64 ad]) ∧ Below w.heap.size w w'))
    (iB : Hid (∀ w, Calls Try.prog 13 #[.agg #[.int .i64 bn, .int .i64 bd]] w fun e w' => e = .returned (.agg #[.int .i64 bd, .int .i64 bn]) ∧ Below w.heap.size w w'))
    (cI : Hid (∀ w, Calls Try.prog 16 #[.agg #[.int .i64 ad, .int .i64 an], .agg #[.int .i64 bd, .int .i64 bn]] w fun e w' => e = .returned (.int .i64 (-1)) ∧ Below w.heap.size w w')) :
    Calls Try.prog 6 #[.agg #[.int .i64 an, .int .i64 ad], .agg #[.int .i64 bn, .int .i64 bd], .agg #[.int .i64 cn, .int .i64 cd]] w fun e w' => e = .returned (.bool true) ∧ Below w.heap.size w w' := by
  have l := Lib.hid lives02_any
  have k1 : Blk (((w.alloc (.cells #[.int .i64 an, .int .i64 ad] 23)).alloc (.cells #[.int .i64 bn, .int .i64 bd] 23)).alloc (.cells #[.int .i64 cn, .int .i64 cd] 23)) w.heap.size #[.int .i64 an, .int .i64 ad] 23 := ((Blk.new _ _ _).alloc _).alloc _
  have k2 : Blk (((w.alloc (.cells #[.int .i64 an, .int .i64 ad] 23)).alloc (.cells #[.int .i64 bn, .int .i64 bd] 23)).alloc (.cells #[.int .i64 cn, .int .i64 cd] 23)) (w.heap.size + 1) #[.int .i64 bn, .int .i64 bd] 23 := (Blk.newAt _ _ _ (by simp)).alloc _
  have k3 : Blk (((w.alloc (.cells #[.int .i64 an, .int .i64 ad] 23)).alloc (.cells #[.int .i64 bn, .int .i64 bd] 23)).alloc (.cells #[.int .i64 cn, .int .i64 cd] 23)) (w.heap.size + 1 + 1) #[.int .i64 cn, .int .i64 cd] 23 := Blk.newAt _ _ _ (by simp)
  have b0 : Below w.heap.size w (((w.alloc (.cells #[.int .i64 an, .int .i64 ad] 23)).alloc (.cells #[.int .i64 bn, .int .i64 bd] 23)).alloc (.cells #[.int .i64 cn, .int .i64 cd] 23)) := (((Below.refl _ _).alloc (Nat.le_refl _) _).alloc (by simp) _).alloc (by simp; omega) _
  have KA := Lib.hid k1; have KB := Lib.hid k2; have KC := Lib.hid k3; have B0 := Lib.hid b0
  clear k1 k2 k3 b0
  go_enter Try.func6, Try.ntmps6
  go_wp2_with fail
  refine (cab.out _).mono ?_
  rintro e w1 ⟨rfl, b1⟩
  have KA_1 := Lib.hid (KA.out.below b1 KA.out.lt)
  have KB_1 := Lib.hid (KB.out.below b1 KB.out.lt)
  have KC_1 := Lib.hid (KC.out.below b1 KC.out.lt)
  have B_1 := Lib.hid (B0.out.trans (b1.mono B0.out.size))
  clear b1
  have x0_KA_1 := KA_1.out.cell 0; have x1_KA_1 := KA_1.out.cell 1
  simp at x0_KA_1 x1_KA_1
  have x0_KB_1 := KB_1.out.cell 0; have x1_KB_1 := KB_1.out.cell 1
  simp at x0_KB_1 x1_KB_1
  go_wp2_with fail
  refine (cba.out _).mono ?_
  rintro e w2 ⟨rfl, b2⟩
  have KA_2 := Lib.hid (KA_1.out.below b2 KA_1.out.lt)
  have KB_2 := Lib.hid (KB_1.out.below b2 KB_1.out.lt)
  have KC_2 := Lib.hid (KC_1.out.below b2 KC_1.out.lt)
  have B_2 := Lib.hid (B_1.out.trans (b2.mono B_1.out.size))
  clear b2
  have x0_KA_2 := KA_2.out.cell 0; have x1_KA_2 := KA_2.out.cell 1
  simp at x0_KA_2 x1_KA_2
  go_wp2_with fail
  refine (mA.out _).mono ?_
  rintro e w3 ⟨rfl, b3⟩
  have KA_3 := Lib.hid (KA_2.out.below b3 KA_2.out.lt)
  have KB_3 := Lib.hid (KB_2.out.below b3 KB_2.out.lt)
  have KC_3 := Lib.hid (KC_2.out.below b3 KC_2.out.lt)
  have B_3 := Lib.hid (B_2.out.trans (b3.mono B_2.out.size))
  clear b3
  have x0_KB_3 := KB_3.out.cell 0; have x1_KB_3 := KB_3.out.cell 1
  simp at x0_KB_3 x1_KB_3
  go_wp2_with fail
  refine (mB.out _).mono ?_
  rintro e w4 ⟨rfl, b4⟩
  have KA_4 := Lib.hid (KA_3.out.below b4 KA_3.out.lt)
  have KB_4 := Lib.hid (KB_3.out.below b4 KB_3.out.lt)
  have KC_4 := Lib.hid (KC_3.out.below b4 KC_3.out.lt)
  have B_4 := Lib.hid (B_3.out.trans (b4.mono B_3.out.size))
  clear b4
  have x0_KC_4 := KC_4.out.cell 0; have x1_KC_4 := KC_4.out.cell 1
  simp at x0_KC_4 x1_KC_4
  go_wp2_with fail
  refine (mC.out _).mono ?_
  rintro e w5 ⟨rfl, b5⟩
  have KA_5 := Lib.hid (KA_4.out.below b5 KA_4.out.lt)
  have KB_5 := Lib.hid (KB_4.out.below b5 KB_4.out.lt)
  have KC_5 := Lib.hid (KC_4.out.below b5 KC_4.out.lt)
  have B_5 := Lib.hid (B_4.out.trans (b5.mono B_4.out.size))
  clear b5
  go_wp2_with fail
  refine region_still (by kernel_rfl) [.int .i64 1, .bool false, .bool false, undef, undef, undef, .bool false, .bool false, .int .i64 1, .agg #[.int .i64 an, .int .i64 ad], .agg #[.int .i64 ad, .int .i64 an], .agg #[.int .i64 bn, .int .i64 bd], .agg #[.int .i64 bd, .int .i64 bn], .int .i64 (-1), .int .i64 1, .bool false, .bool false, .bool false, .agg #[.int .i64 an, .int .i64 ad], .agg #[.int .i64 ad, .int .i64 an], .agg #[.int .i64 an, .int .i64 ad], .agg #[.int .i64 an, .int .i64 ad], .bool false, .bool false]
    (fun w' => Below w5.heap.size w5 w') (by kernel_rfl) (Below.refl _ _).drew ?_
  intro af haf
  simp only [puts, Act.put, List.getD_cons_zero, List.getD_cons_succ, List.setIfInBounds_toArray, List.set_cons_succ, List.set_cons_zero] at haf
  subst haf
  refine ⟨?_, ?_⟩
  · simp only [EachTo]
    refine ⟨?_, ?_, ?_, ?_, ?_, ?_, ?_, ?_, ?_, ?_, ?_, ?_, ?_, ?_, ?_, ?_, ?_, ?_, ?_, ?_, ?_, ?_, ?_, ?_, trivial⟩
    · intro w' hS
      refine OpTo.plain ?_ ?_
      exact rfl
      have HS := Lib.hid hS
      clear hS
      go_wp2_with fail
      all_goals first | exact HS.out | exact ⟨rfl, HS.out⟩ | rfl
    · intro w' hS
      refine OpTo.plain ?_ ?_
      exact rfl
      have HS := Lib.hid hS
      clear hS
      go_wp2_with fail
      all_goals first | exact HS.out | exact ⟨rfl, HS.out⟩ | rfl
    · intro w' hS
      refine OpTo.plain ?_ ?_
      exact rfl
      have HS := Lib.hid hS
      clear hS
      go_wp2_with fail
      all_goals first | exact HS.out | exact ⟨rfl, HS.out⟩ | rfl
    · intro w' hS
      refine OpTo.passed (by kernel_rfl) rfl hS
    · intro w' hS
      refine OpTo.passed (by kernel_rfl) rfl hS
    · intro w' hS
      refine OpTo.passed (by kernel_rfl) rfl hS
    · intro w' hS
      refine OpTo.plain ?_ ?_
      exact rfl
      have HS := Lib.hid hS
      clear hS
      go_wp2_with fail
      all_goals first | exact HS.out | exact ⟨rfl, HS.out⟩ | rfl
    · intro w' hS
      refine OpTo.plain ?_ ?_
      exact rfl
      have HS := Lib.hid hS
      clear hS
      go_wp2_with fail
      all_goals first | exact HS.out | exact ⟨rfl, HS.out⟩ | rfl
    · intro w' hS
      refine OpTo.wanted ?_ ?_
      kernel_rfl
      have HS := Lib.hid hS
      clear hS
      go_wp2_with fail
      all_goals first | exact HS.out | exact ⟨rfl, HS.out⟩ | rfl
    · intro w' hS
      refine OpTo.wanted ?_ ?_
      kernel_rfl
      have d0 := (KA_5.out.below hS KA_5.out.lt).cell 0; have e0 := (KA_5.out.below hS KA_5.out.lt).cell 1
      simp at d0 e0
      have HS := Lib.hid hS
      clear hS
      go_wp2_with fail
      all_goals first | exact HS.out | exact ⟨rfl, HS.out⟩ | rfl
    · intro w' hS
      refine OpTo.wanted ?_ ?_
      kernel_rfl
      have HS := Lib.hid hS
      clear hS
      go_wp2_with fail
      refine (iA.out w').mono ?_
      rintro e w'' ⟨rfl, hb2⟩
      exact ⟨rfl, andB HS.out hb2⟩
    · intro w' hS
      refine OpTo.wanted ?_ ?_
      kernel_rfl
      have d0 := (KB_5.out.below hS KB_5.out.lt).cell 0; have e0 := (KB_5.out.below hS KB_5.out.lt).cell 1
      simp at d0 e0
      have HS := Lib.hid hS
      clear hS
      go_wp2_with fail
      all_goals first | exact HS.out | exact ⟨rfl, HS.out⟩ | rfl
    · intro w' hS
      refine OpTo.wanted ?_ ?_
      kernel_rfl
      have HS := Lib.hid hS
      clear hS
      go_wp2_with fail
      refine (iB.out w').mono ?_
      rintro e w'' ⟨rfl, hb2⟩
      exact ⟨rfl, andB HS.out hb2⟩
    · intro w' hS
      refine OpTo.wanted ?_ ?_
      kernel_rfl
      have HS := Lib.hid hS
      clear hS
      go_wp2_with fail
      refine (cI.out w').mono ?_
      rintro e w'' ⟨rfl, hb2⟩
      exact ⟨rfl, andB HS.out hb2⟩
    · intro w' hS
      refine OpTo.wanted ?_ ?_
      kernel_rfl
      have HS := Lib.hid hS
      clear hS
      go_wp2_with fail
      all_goals first | exact HS.out | exact ⟨rfl, HS.out⟩ | rfl
    · intro w' hS
      refine OpTo.wanted ?_ ?_
      kernel_rfl
      have HS := Lib.hid hS
      clear hS
      go_wp2_with fail
      all_goals first | exact HS.out | exact ⟨rfl, HS.out⟩ | rfl
    · intro w' hS
      refine OpTo.plain ?_ ?_
      exact rfl
      have HS := Lib.hid hS
      clear hS
      go_wp2_with fail
      all_goals first | exact HS.out | exact ⟨rfl, HS.out⟩ | rfl
    · intro w' hS
      refine OpTo.plain ?_ ?_
      exact rfl
      have HS := Lib.hid hS
      clear hS
      go_wp2_with fail
      all_goals first | exact HS.out | exact ⟨rfl, HS.out⟩ | rfl
    · intro w' hS
      refine OpTo.wanted ?_ ?_
      kernel_rfl
      have d0 := (KA_5.out.below hS KA_5.out.lt).cell 0; have e0 := (KA_5.out.below hS KA_5.out.lt).cell 1
      simp at d0 e0
      have HS := Lib.hid hS
      clear hS
      go_wp2_with fail
      all_goals first | exact HS.out | exact ⟨rfl, HS.out⟩ | rfl
    · intro w' hS
      refine OpTo.wanted ?_ ?_
      kernel_rfl
      have HS := Lib.hid hS
      clear hS
      go_wp2_with fail
      refine (iA.out w').mono ?_
      rintro e w'' ⟨rfl, hb2⟩
      exact ⟨rfl, andB HS.out hb2⟩
    · intro w' hS
      refine OpTo.wanted ?_ ?_
      kernel_rfl
      have HS := Lib.hid hS
      clear hS
      go_wp2_with fail
      refine (iAA.out w').mono ?_
      rintro e w'' ⟨rfl, hb2⟩
      exact ⟨rfl, andB HS.out hb2⟩
    · intro w' hS
      refine OpTo.wanted ?_ ?_
      kernel_rfl
      have d0 := (KA_5.out.below hS KA_5.out.lt).cell 0; have e0 := (KA_5.out.below hS KA_5.out.lt).cell 1
      simp at d0 e0
      have HS := Lib.hid hS
      clear hS
      go_wp2_with fail
      all_goals first | exact HS.out | exact ⟨rfl, HS.out⟩ | rfl
    · intro w' hS
      refine OpTo.wanted ?_ ?_
      kernel_rfl
      have HS := Lib.hid hS
      clear hS
      go_wp2_with fail
      all_goals first | exact HS.out | exact ⟨rfl, HS.out⟩ | rfl
    · intro w' hS
      refine OpTo.plain ?_ ?_
      exact rfl
      have HS := Lib.hid hS
      clear hS
      go_wp2_with fail
      all_goals first | exact HS.out | exact ⟨rfl, HS.out⟩ | rfl
  intro w' hS
  have KA' := Lib.hid (KA_5.out.below hS KA_5.out.lt); have KB' := Lib.hid (KB_5.out.below hS KB_5.out.lt); have KC' := Lib.hid (KC_5.out.below hS KC_5.out.lt)
  have B' := Lib.hid (B_5.out.trans (hS.mono B_5.out.size))
  clear hS
  go_wp2_with fail
  refine (l.out _).mono ?_
  rintro e w21 ⟨rfl, b21⟩
  have KA_21 := Lib.hid (KA'.out.below b21 KA'.out.lt)
  have KB_21 := Lib.hid (KB'.out.below b21 KB'.out.lt)
  have KC_21 := Lib.hid (KC'.out.below b21 KC'.out.lt)
  have B_21 := Lib.hid (B'.out.trans (b21.mono B'.out.size))
  clear b21
  go_wp2_with fail
  go_ret
  exact ⟨rfl, B_21.out⟩
theorem ratsorder_any (an ad bn bd cn cd : Int) (w : World) (h1 : In64 an) (h2 : In64 ad) (h3 : In64 bn) (h4 : In64 bd) (h5 : In64 cn) (h6 : In64 cd) :
    Calls Try.prog 6 #[.agg #[.int .i64 an, .int .i64 ad], .agg #[.int .i64 bn, .int .i64 bd], .agg #[.int .i64 cn, .int .i64 cd]] w fun e w' => e = .returned (.bool true) ∧ Below w.heap.size w w' := by
  have cab := Lib.hid (fun w => compare_any an ad bn bd w h1 h2 h3 h4)
  have cba := Lib.hid (fun w => compare_any bn bd an ad w h3 h4 h1 h2)
  have cbc := Lib.hid (fun w => compare_any bn bd cn cd w h3 h4 h5 h6)
  have cac := Lib.hid (fun w => compare_any an ad cn cd w h1 h2 h5 h6)
  have cI := Lib.hid (fun w => compare_any ad an bd bn w h2 h1 h4 h3)
  have mA := Lib.hid (fun w => may_any an ad w h1 h2)
  have mB := Lib.hid (fun w => may_any bn bd w h3 h4)
  have mC := Lib.hid (fun w => may_any cn cd w h5 h6)
  have iA := Lib.hid (fun w => inverse_any an ad w h1 h2)
  have iAA := Lib.hid (fun w => inverse_any ad an w h2 h1)
  have iB := Lib.hid (fun w => inverse_any bn bd w h3 h4)
  cases ma : mayB an ad
  · rw [cmpR_nota ma] at cab
    rw [cmpR_notb ma] at cba
    rw [ma] at mA
    exact order_nota an ad bn bd cn cd w cab cba mA
  cases mb : mayB bn bd
  · rw [cmpR_notb mb] at cab
    rw [cmpR_nota mb] at cba
    rw [ma] at mA; rw [mb] at mB
    exact order_notb an ad bn bd cn cd w cab cba mA mB
  have mia : mayB ad an = true := by rw [mayB_swap]; exact ma
  have mib : mayB bd bn = true := by rw [mayB_swap]; exact mb
  rw [cmpR_both ma mb] at cab
  rw [cmpR_both mb ma, cmpI_neg] at cba
  rw [cmpR_both mia mib, Int.mul_comm ad bn, Int.mul_comm bd an, cmpI_neg] at cI
  rw [ma] at mA; rw [mb] at mB
  rw [(al_may ma).1, (al_may ma).2] at iA
  rw [(al_may mia).1, (al_may mia).2] at iAA
  rw [(al_may mb).1, (al_may mb).2] at iB
  have hc := cmpI_cases (an * bd) (bn * ad)
  cases mc : mayB cn cd
  · rw [mc] at mC
    rcases hc with hn | ⟨hn, _⟩ | hn
    · rw [hn] at cab cba; exact order_notc_m an ad bn bd cn cd w cab cba mA mB mC
    · rw [hn] at cab cba; exact order_notc_z an ad bn bd cn cd w cab cba mA mB mC
    · rw [hn] at cab cba; exact order_notc_p an ad bn bd cn cd w cab cba mA mB mC
  · rw [mc] at mC
    rw [cmpR_both mb mc] at cbc
    rw [cmpR_both ma mc] at cac
    have ht := cmp_trans ma mb mc
    rcases hc with hn | ⟨hn, he⟩ | hn
    · rw [hn] at cab cba cI ht
      refine order_all_m an ad bn bd cn cd _ _ ?_ w cab cba mA mB mC iA iAA iB cI cbc cac
      rcases Int.lt_or_le 0 (cmpI (bn * cd) (cn * bd)) with h | h
      · exact .inl h
      · exact .inr ⟨h, ht (by omega) h⟩
    · obtain ⟨e1, e2⟩ := rate_same ma mb he
      subst e1 e2
      rw [hn] at cab cba cI ht
      refine order_all_z an ad cn cd _ _ ?_ w cab cba mA mB mC iA iAA cI cbc cac
      rcases Int.lt_or_le 0 (cmpI (an * cd) (cn * ad)) with h | h
      · exact .inl h
      · exact .inr ⟨h, ht (by omega) h⟩
    · rw [hn] at cab cba cI
      exact order_all_p an ad bn bd cn cd w cab cba mA mB mC iA iAA iB cI
theorem ratsorder_walk (an ad bn bd cn cd : Int) (w : World) (h0 : (Lit.int .i64 an).wf = true) (h1 : (Lit.int .i64 ad).wf = true) (h2 : (Lit.int .i64 bn).wf = true) (h3 : (Lit.int .i64 bd).wf = true) (h4 : (Lit.int .i64 cn).wf = true) (h5 : (Lit.int .i64 cd).wf = true) :
    Calls Try.prog 6 #[.agg #[.int .i64 an, .int .i64 ad], .agg #[.int .i64 bn, .int .i64 bd], .agg #[.int .i64 cn, .int .i64 cd]] w fun e w' => e = .returned (.bool true) ∧ Below w.heap.size w w' :=
  ratsorder_any an ad bn bd cn cd w (In64.of_wf h0) (In64.of_wf h1) (In64.of_wf h2) (In64.of_wf h3) (In64.of_wf h4) (In64.of_wf h5)

end Go.Proofs.Ytdkmbbjdoonomaa
