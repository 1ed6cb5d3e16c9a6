/-
  countinghouseref02: the greatest number that divides both.
-/
import Derived.Test.YtdbdeodcldogmaaRef01c
namespace Go.Proofs.Ytdbdeodcldogmaa
open Go.RowKit
set_option linter.unusedSimpArgs false
set_option linter.unusedVariables false

theorem max_if (a b : Int) : (if a < b then b else a) = max a b := by split <;> omega
theorem gcd_step (x y k : Int) : Int.gcd (x - y * k) y = Int.gcd x y := by
  rw [Int.sub_eq_add_neg, ← Int.mul_neg]
  exact Int.gcd_add_mul_left_left y x (-k)
theorem common_step (x y k : Int) (hy : 1 ≤ y) (hxy : y < x) (hk : k = max 1 (x / y - 1)) : 1 ≤ x - y * k ∧ x - y * k < x ∧ 1 ≤ k ∧ y * k < x := by
  have hd := Int.mul_ediv_add_emod x y
  have hm := Int.emod_nonneg x (show y ≠ 0 by omega)
  have hq : 1 ≤ x / y := by
    rcases Int.lt_or_le (x / y) 1 with h | h
    · have := Int.emod_lt_of_pos x (show 0 < y by omega)
      have h2 : y * (x / y) ≤ y * 0 := Int.mul_le_mul_of_nonneg_left (by omega) (by omega)
      omega
    · exact h
  have hk1 : 1 ≤ k := by omega
  have hyk : y ≤ y * k := by have := Int.mul_le_mul_of_nonneg_left hk1 (show 0 ≤ y by omega); omega
  have hlt : y * k < x := by
    by_cases h : x / y = 1
    · have : k = 1 := by omega
      subst this; omega
    · have : k = x / y - 1 := by omega
      have e : y * k = y * (x / y) - y := by rw [this, Int.mul_sub, Int.mul_one]
      omega
  omega

/-- What holds at the head of common's loop. -/
def CommonAt (g : Nat) (u v : Value) : Prop := ∃ x y : Int, u = .int .i64 x ∧ v = .int .i64 y ∧ 1 ≤ x ∧ 1 ≤ y ∧ x ≤ 9223372036854775807 ∧ y ≤ 9223372036854775807 ∧ Int.gcd x y = g
theorem common_wraps (x y : Int) (hy : 1 ≤ y) (hx : x ≤ 9223372036854775807) (hxy : y < x) :
    wrap64 (x - wrap64 (y * max 1 (wrap64 (wrap64 (x / y) - 1)))) = x - y * max 1 (x / y - 1) := by
  obtain ⟨h1, h2, h3, h4⟩ := common_step x y _ hy hxy rfl
  have hq0 := Int.ediv_nonneg (show 0 ≤ x by omega) (show 0 ≤ y by omega)
  have hq1 := Int.ediv_le_self y (show 0 ≤ x by omega)
  rw [wrap64_of (x / y) ⟨by omega, by omega⟩, wrap64_of (x / y - 1) ⟨by omega, by omega⟩]
  generalize max 1 (x / y - 1) = k at *
  have hyk : 0 ≤ y * k := Int.mul_nonneg (by omega) (by omega)
  rw [wrap64_of (y * k) ⟨by omega, by omega⟩, wrap64_of (x - y * k) ⟨by omega, by omega⟩]
set_option maxHeartbeats 1000000 in
theorem common_any (a b : Int) (w : World) (ha : In64 a) (hb : In64 b) (h1 : 1 ≤ a) (h2 : 1 ≤ b) :
    Calls Try.prog 72 #[.int .i64 a, .int .i64 b] w fun e w' => e = .returned (.int .i64 (Int.gcd a b)) ∧ w' = w := by
  have HA := Lib.hid ha; have HB := Lib.hid hb
  clear ha hb
  go_enter Try.func72, Try.ntmps72
  go_wp2
  go_loopw [0, 1] (fun u v wr => CommonAt (Int.gcd a b) u v ∧ wr = w) (fun u v _ => (intOf u + intOf v).toNat)
  case atStart => exact ⟨⟨a, b, rfl, rfl, h1, h2, HA.out.2, HB.out.2, rfl⟩, rfl⟩
  case round =>
    obtain ⟨⟨x, y, rfl, rfl, hx1, hy1, hx2, hy2, hg⟩, rfl⟩ := hrel
    have HG := Lib.hid hg
    clear hg
    rcases Int.lt_trichotomy x y with hlt | heq | hgt
    · obtain ⟨q1, q2, q3, q4⟩ := common_step y x _ hx1 hlt rfl
      have hw := common_wraps y x hx1 hy2 hlt
      have hs := gcd_step y x (max 1 (y / x - 1))
      have e1 : Int.tdiv y x = y / x := Int.tdiv_eq_ediv_of_nonneg (by omega)
      have hne : (x == y) = false := by simp; omega
      have hng : ¬ x > y := by omega
      have HW := Lib.hid hw; have HS := Lib.hid hs; have Q1 := Lib.hid q1; have Q2 := Lib.hid q2; have HL := Lib.hid hy2; have HX := Lib.hid hx2
      clear hw hs q1 q2 q3 q4
      go_wp2
      refine ⟨⟨⟨x, _, rfl, rfl, hx1, ?_, hx2, ?_, ?_⟩, trivial⟩, ?_⟩
      · (try rw [max_if]); rw [HW.out]; exact Q1.out
      · (try rw [max_if]); rw [HW.out]; have := Q2.out; omega
      · (try rw [max_if]); rw [HW.out, Int.gcd_comm, HS.out, Int.gcd_comm]; exact HG.out
      · (try rw [max_if]); rw [HW.out]; have := Q1.out; have := Q2.out; simp [intOf]; omega
    · subst heq
      have e : Int.gcd x x = x := by rw [Int.gcd_self]; omega
      have hnn : (x != x) = false := by simp
      go_wp2
      go_ret
      exact ⟨by rw [← HG.out, e]; rfl, rfl⟩
    · obtain ⟨q1, q2, q3, q4⟩ := common_step x y _ hy1 hgt rfl
      have hw := common_wraps x y hy1 hx2 hgt
      have hs := gcd_step x y (max 1 (x / y - 1))
      have e1 : Int.tdiv x y = x / y := Int.tdiv_eq_ediv_of_nonneg (by omega)
      have hne : (x == y) = false := by simp; omega
      have HW := Lib.hid hw; have HS := Lib.hid hs; have Q1 := Lib.hid q1; have Q2 := Lib.hid q2
      clear hw hs q1 q2 q3 q4
      go_wp2
      refine ⟨⟨⟨_, y, rfl, rfl, ?_, hy1, ?_, hy2, ?_⟩, trivial⟩, ?_⟩
      · (try rw [max_if]); rw [HW.out]; exact Q1.out
      · (try rw [max_if]); rw [HW.out]; have := Q2.out; omega
      · (try rw [max_if]); rw [HW.out, HS.out]; exact HG.out
      · (try rw [max_if]); rw [HW.out]; have := Q1.out; have := Q2.out; simp [intOf]; omega

/-- A rate that may be. -/
def MayN (n d : Int) : Prop := 1 ≤ n ∧ 1 ≤ d ∧ n ≤ 1099511627776 ∧ d ≤ 1099511627776 ∧ Int.gcd n d = 1
instance (n d : Int) : Decidable (MayN n d) := inferInstanceAs (Decidable (_ ∧ _))
def mayB (n d : Int) : Bool := decide (MayN n d)
theorem mayB_not {n d : Int} (h : ¬ (1 ≤ n ∧ 1 ≤ d ∧ n ≤ 1099511627776 ∧ d ≤ 1099511627776)) : mayB n d = false :=
  decide_eq_false (fun k : MayN n d => h ⟨k.1, k.2.1, k.2.2.1, k.2.2.2.1⟩)
theorem mayB_in {n d : Int} (h : 1 ≤ n ∧ 1 ≤ d ∧ n ≤ 1099511627776 ∧ d ≤ 1099511627776) : mayB n d = ((Int.gcd n d : Int) == 1) := by
  by_cases k : Int.gcd n d = 1
  · have e1 : mayB n d = true := decide_eq_true (show MayN n d from ⟨h.1, h.2.1, h.2.2.1, h.2.2.2, k⟩)
    rw [e1, k]; rfl
  · have e1 : mayB n d = false := decide_eq_false (fun e : MayN n d => k e.2.2.2.2)
    rw [e1]; symm; simp; omega

set_option maxHeartbeats 1000000 in
theorem rmay_any (n d : Int) (w : World) :
    Calls Try.prog 60 #[.agg #[.int .i64 n, .int .i64 d]] w fun e w' => e = .returned (.bool (mayB n d)) ∧ Below w.heap.size w w' := by
  have hs : n < 1 ∨ (1 ≤ n ∧ d < 1) ∨ (1 ≤ n ∧ 1 ≤ d ∧ 1099511627776 < n) ∨ (1 ≤ n ∧ 1 ≤ d ∧ n ≤ 1099511627776 ∧ 1099511627776 < d) ∨ (1 ≤ n ∧ 1 ≤ d ∧ n ≤ 1099511627776 ∧ d ≤ 1099511627776) := by omega
  have hb : Below w.heap.size w (w.alloc (.cells #[.int .i64 n, .int .i64 d] 37)) := (Below.refl _ _).alloc (Nat.le_refl _) _
  have HB := Lib.hid hb
  clear hb
  rcases hs with h1 | ⟨h1, h2⟩ | ⟨h1, h2, h3⟩ | ⟨h1, h2, h3, h4⟩ | ⟨h1, h2, h3, h4⟩
  · have HM := Lib.hid (mayB_not (n := n) (d := d) (by omega))
    go_enter Try.func60, Try.ntmps60
    go_wp2
    go_ret
    exact ⟨by rw [HM.out]; rfl, HB.out⟩
  · have HM := Lib.hid (mayB_not (n := n) (d := d) (by omega))
    go_enter Try.func60, Try.ntmps60
    go_wp2
    go_ret
    exact ⟨by rw [HM.out]; rfl, HB.out⟩
  · have HM := Lib.hid (mayB_not (n := n) (d := d) (by omega))
    go_enter Try.func60, Try.ntmps60
    go_wp2
    go_ret
    exact ⟨by rw [HM.out]; rfl, HB.out⟩
  · have HM := Lib.hid (mayB_not (n := n) (d := d) (by omega))
    go_enter Try.func60, Try.ntmps60
    go_wp2
    go_ret
    exact ⟨by rw [HM.out]; rfl, HB.out⟩
  · have HM := Lib.hid (mayB_in (n := n) (d := d) ⟨h1, h2, h3, h4⟩)
    have c := Lib.hid (fun w => common_any n d w ⟨by omega, by omega⟩ ⟨by omega, by omega⟩ h1 h2)
    go_enter Try.func60, Try.ntmps60
    go_wp2_with fail
    refine (c.out _).mono ?_
    rintro e w1 ⟨rfl, rfl⟩
    go_wp2_with fail
    go_ret
    exact ⟨by rw [HM.out]; rfl, HB.out⟩



end Go.Proofs.Ytdbdeodcldogmaa
