/-
  Package exacts: what each of its functions answers. A number of 128 bits is held in two words.
-/
import Derived.Test.YtdkmbbjdoonomaaBits
import Derived.Test.YtdkmbbjdoonomaaDiv64
import Derived.Deep.RegionWith
namespace Go.Proofs.Ytdkmbbjdoonomaa
open Go.RowKit
set_option linter.unusedSimpArgs false
set_option linter.unusedVariables false

def hi64 (x : Int) : Int := x / 18446744073709551616 % 18446744073709551616
def lo64 (x : Int) : Int := x % 18446744073709551616
/-- A whole number, as package exacts holds it: two words, the upper one first. -/
def wideV (x : Int) : Value := .agg #[.int .u64 (hi64 x), .int .u64 (lo64 x)]
theorem hi64_bd (x : Int) : InU64 (hi64 x) := by unfold hi64 InU64; omega
theorem lo64_bd (x : Int) : InU64 (lo64 x) := by unfold lo64 InU64; omega
theorem wideV_eq (x : Int) : wideV x = .agg #[.int .u64 (hi64 x), .int .u64 (lo64 x)] := rfl
theorem wideV_mk (x a b : Int) (ha : a = hi64 x) (hb : b = lo64 x) : Value.agg #[.int .u64 a, .int .u64 b] = wideV x := by rw [ha, hb]; rfl

/-- What is answered of a whole number: itself, or that it is too great. -/
def okN (x : Int) : Int := if In64 x then x else 0
def erN (x : Int) : Int := if In64 x then 0 else 10
def ans (x : Int) : Value := .tuple #[.int .i64 (okN x), .int .i64 (erN x)]

set_option maxHeartbeats 400000 in
theorem widen_any (n : Int) (w : World) (h : In64 n) :
    Calls Try.prog 49 #[.int .i64 n] w fun e w' => e = .returned (wideV n) ∧ Below w.heap.size w w' := by
  have hv := Lib.hid (wideV_mk n (IntKind.u64.wrap (n / 9223372036854775808)) (IntKind.u64.wrap n) (by unfold In64 at h; rw [wrap_u64, hi64]; omega) (by rw [wrap_u64, lo64]))
  obtain ⟨h1, h2⟩ := h
  go_enter Try.func49, Try.ntmps49
  go_wp2
  refine bodyPost_ret (v := wideV n) ?_ rfl ⟨rfl, (Below.refl _ _).alloc (Nat.le_refl _) _⟩
  simp [results, Try.results49, go_sem]
  exact hv.out

set_option maxHeartbeats 400000 in
theorem plus_any (x y : Int) (w : World) :
    Calls Try.prog 48 #[wideV x, wideV y] w fun e w' => e = .returned (wideV (x + y)) ∧ Below w.heap.size w w' := by
  have bx := lo64_bd x; have by' := lo64_bd y; have cx := hi64_bd x; have cy := hi64_bd y
  have hv := Lib.hid (wideV_mk (x + y) ((hi64 x + hi64 y + (lo64 x + lo64 y) / 18446744073709551616) % 18446744073709551616) ((lo64 x + lo64 y) % 18446744073709551616) (by unfold hi64 lo64; omega) (by unfold lo64; omega))
  have a1 := fun w => run_Add64 (lo64 x) (lo64 y) 0 bx.1 by'.1 (by omega) (by omega) w
  unfold InU64 at bx by' cx cy
  have a2 := fun w => run_Add64 (hi64 x) (hi64 y) ((lo64 x + lo64 y) / 18446744073709551616) cx.1 cy.1 (by omega) (by omega) w
  simp only [Int.add_zero] at a1
  rw [wideV_eq, wideV_eq]
  go_enter Try.func48, Try.ntmps48
  go_wp2
  refine bodyPost_ret (v := wideV (x + y)) ?_ rfl ⟨rfl, (((Below.refl _ _).alloc (Nat.le_refl _) _).alloc (by simp) _).alloc (by simp; omega) _⟩
  simp [results, Try.results48, go_sem]
  exact hv.out


theorem prod_hi (a b : Int) (ha : In64 a) (hb : In64 b) :
    ((a % 18446744073709551616) * (b % 18446744073709551616) / 18446744073709551616 - (if a < 0 then b else 0) - (if b < 0 then a else 0)) % 18446744073709551616 = hi64 (a * b) := by
  unfold hi64 In64 at *
  obtain ⟨s, hs, hs2⟩ : ∃ s : Int, a % 18446744073709551616 = a + s * 18446744073709551616 ∧ s = if a < 0 then 1 else 0 := ⟨_, by split <;> omega, rfl⟩
  obtain ⟨t, ht, ht2⟩ : ∃ t : Int, b % 18446744073709551616 = b + t * 18446744073709551616 ∧ t = if b < 0 then 1 else 0 := ⟨_, by split <;> omega, rfl⟩
  rw [hs, ht]
  have e1 : (if a < 0 then b else 0) = s * b := by rw [hs2]; split <;> simp
  have e2 : (if b < 0 then a else 0) = t * a := by rw [ht2]; split <;> simp
  rw [e1, e2]
  have e3 : (a + s * 18446744073709551616) * (b + t * 18446744073709551616) = a * b + (s * b + t * a + s * t * 18446744073709551616) * 18446744073709551616 := by
    simp only [Int.add_mul, Int.mul_add]
    rw [show s * 18446744073709551616 * b = s * b * 18446744073709551616 by rw [Int.mul_assoc, Int.mul_comm 18446744073709551616 b, ← Int.mul_assoc],
      show s * 18446744073709551616 * (t * 18446744073709551616) = s * t * 18446744073709551616 * 18446744073709551616 by
        rw [← Int.mul_assoc, Int.mul_assoc s 18446744073709551616 t, Int.mul_comm 18446744073709551616 t, ← Int.mul_assoc],
      show a * (t * 18446744073709551616) = t * a * 18446744073709551616 by rw [← Int.mul_assoc, Int.mul_comm a t]]
    omega
  rw [e3]
  generalize a * b = p at *
  generalize s * b = q at *
  generalize t * a = r at *
  generalize s * t = u at *
  omega
theorem mul_u64_bd (a b : Int) (ha : InU64 a) (hb : InU64 b) : 0 ≤ a * b / 18446744073709551616 ∧ a * b / 18446744073709551616 < 18446744073709551616 := by
  unfold InU64 at *
  have h0 : 0 ≤ a * b := Int.mul_nonneg ha.1 hb.1
  have h1 : a * b ≤ 18446744073709551615 * 18446744073709551615 := Int.mul_le_mul (by omega) (by omega) hb.1 (by omega)
  omega
theorem prod_lo (a b : Int) : (a % 18446744073709551616) * (b % 18446744073709551616) % 18446744073709551616 = lo64 (a * b) := by
  unfold lo64; rw [← Int.mul_emod]

set_option maxHeartbeats 400000 in
theorem product_any (a b : Int) (w : World) (ha : In64 a) (hb : In64 b) :
    Calls Try.prog 43 #[.int .i64 a, .int .i64 b] w fun e w' => e = .returned (wideV (a * b)) ∧ Below w.heap.size w w' := by
  have hh := Lib.hid (prod_hi a b ha hb)
  have hl := Lib.hid (prod_lo a b)
  have ua : IntKind.u64.wrap a = a % 18446744073709551616 := wrap_u64 a
  have ub : IntKind.u64.wrap b = b % 18446744073709551616 := wrap_u64 b
  have ia : InU64 (a % 18446744073709551616) := by unfold InU64; omega
  have ib : InU64 (b % 18446744073709551616) := by unfold InU64; omega
  obtain ⟨a1, a2⟩ := ha
  obtain ⟨b1, b2⟩ := hb
  by_cases na : a < 0 <;> by_cases nb : b < 0
  all_goals
    go_enter Try.func43, Try.ntmps43
    go_wp2_with (go_at_call 27; refine (mul64_any _ _ _ ia ib).mono ?_; rintro e w' ⟨rfl, rfl⟩)
    refine bodyPost_ret (v := wideV (a * b)) ?_ rfl ⟨rfl, (Below.refl _ _).alloc (Nat.le_refl _) _⟩
    simp [results, Try.results43, go_sem]
    refine wideV_mk _ _ _ ?_ hl.out
    rw [← hh.out]
    try simp only [wrap_u64]
    have hP := mul_u64_bd _ _ ia ib
    generalize a % 18446744073709551616 * (b % 18446744073709551616) = p at hP ⊢
    (repeat' split) <;> omega

theorem run_eq_wide (a b c d : Int) (w : World) :
    (Op.equalIn 10000 64 (.agg #[.int .u64 a, .int .u64 b]) (.agg #[.int .u64 c, .int .u64 d])).run Try.prog w = .ok (a == c && b == d) w := by
  have h := run_equalIn_cells (P := Try.prog) 9999 64 42 2 Try.underlying64 (fun w => by kernel_rfl) (fun w => by kernel_rfl) #[.int .u64 a, .int .u64 b] #[.int .u64 c, .int .u64 d] rfl rfl
    (fun i => if i = 0 then a == c else b == d) (by
      intro i x y w hx hy
      match i, hx, hy with
      | 0, hx, hy => simp at hx hy; subst hx hy; exact run_equalIn_int w 9998 42 .u64 .u64 a c Try.underlying42
      | 1, hx, hy => simp at hx hy; subst hx hy; exact run_equalIn_int w 9998 42 .u64 .u64 b d Try.underlying42
      | n + 2, hx, _ => simp at hx) w
  rw [h]
  simp [List.range_succ]

theorem narrow_eq (x : Int) (h1 : -170141183460469231731687303715884105728 ≤ x) (h2 : x < 170141183460469231731687303715884105728) :
    wrap64 (lo64 x) = x ∨ (¬ In64 x ∧ (hi64 (wrap64 (lo64 x)) == hi64 x && lo64 (wrap64 (lo64 x)) == lo64 x) = false) := by
  obtain ⟨h3, h4⟩ := wrap64_def (lo64 x)
  generalize wrap64 (lo64 x) = y at *
  unfold In64 hi64 lo64 at *
  by_cases h : y = x
  · exact .inl h
  · right
    constructor
    · omega
    · rw [Bool.and_eq_false_iff]; left; rw [beq_eq_false_iff_ne]; omega
theorem narrow_self (x : Int) : (hi64 x == hi64 x && lo64 x == lo64 x) = true := by simp

set_option maxHeartbeats 400000 in
theorem narrow_any (x : Int) (w : World) (h1 : -170141183460469231731687303715884105728 ≤ x) (h2 : x < 170141183460469231731687303715884105728) :
    Calls Try.prog 45 #[wideV x] w fun e w' => e = .returned (ans x) ∧ Below w.heap.size w w' := by
  have hq := run_eq_wide
  have h64 := (wrap64_def (lo64 x)).1
  have key := narrow_eq x h1 h2
  clear h1 h2
  rw [wideV_eq]
  go_enter Try.func45, Try.ntmps45
  go_wp2
  have hk := Blk.new w #[Value.int IntKind.u64 (hi64 x), Value.int IntKind.u64 (lo64 x)] 64
  have hbw : Below w.heap.size w (w.alloc (Obj.cells #[Value.int IntKind.u64 (hi64 x), Value.int IntKind.u64 (lo64 x)] 64)) := (Below.refl _ _).alloc (Nat.le_refl _) _
  have hs : w.heap.size < (w.alloc (Obj.cells #[Value.int IntKind.u64 (hi64 x), Value.int IntKind.u64 (lo64 x)] 64)).heap.size := by simp
  generalize w.alloc (Obj.cells #[Value.int IntKind.u64 (hi64 x), Value.int IntKind.u64 (lo64 x)] 64) = W at *
  have hc0 : W.cell? ⟨w.heap.size, 0, none⟩ = some (.int .u64 (hi64 x)) := hk.cell 0
  have hc1 : W.cell? ⟨w.heap.size, 1, none⟩ = some (.int .u64 (lo64 x)) := hk.cell 1
  generalize wrap64 (lo64 x) = y at *
  have hfit : In64 x → okN x = x ∧ erN x = 0 := fun h => by simp [okN, erN, h]
  have hnot : ¬ In64 x → okN x = 0 ∧ erN x = 10 := fun h => by simp [okN, erN, h]
  have hk1 := Lib.hid hfit; have hk2 := Lib.hid hnot; clear hfit hnot
  rcases key with rfl | ⟨hn, hne⟩
  · go_region_held3 (fun w' => w'.cell? ⟨w.heap.size, 0, none⟩ = some (.int .u64 (hi64 y)) ∧ w'.cell? ⟨w.heap.size, 1, none⟩ = some (.int .u64 (lo64 y))) (go_keep)
      (first | (go_at_call 49; refine (widen_any _ _ h64).mono ?_; simp only [wideV_eq]; rintro e w' ⟨rfl, hb⟩; have c0 := (bcell hb).1 _ 0 hs; have c1 := (bcell hb).1 _ 1 hs))
    go_wp2
    go_ret2
    refine ⟨by rw [ans, (hk1.out h64).1, (hk1.out h64).2]; rfl, hbw.trans ((Below.undrew hb).mono (by simp; omega))⟩
  · go_region_held3 (fun w' => w'.cell? ⟨w.heap.size, 0, none⟩ = some (.int .u64 (hi64 x)) ∧ w'.cell? ⟨w.heap.size, 1, none⟩ = some (.int .u64 (lo64 x))) (go_keep)
      (first | (go_at_call 49; refine (widen_any _ _ h64).mono ?_; simp only [wideV_eq]; rintro e w' ⟨rfl, hb⟩; have c0 := (bcell hb).1 _ 0 hs; have c1 := (bcell hb).1 _ 1 hs))
    go_wp2
    go_ret2
    exact ⟨by rw [ans, (hk2.out hn).1, (hk2.out hn).2]; rfl, hbw.trans ((Below.undrew hb).mono (by simp; omega))⟩

set_option maxHeartbeats 400000 in
theorem add_any (a b : Int) (w : World) (ha : In64 a) (hb : In64 b) :
    Calls Try.prog 42 #[.int .i64 a, .int .i64 b] w fun e w' => e = .returned (ans (a + b)) ∧ Below w.heap.size w w' := by
  have h1 : -170141183460469231731687303715884105728 ≤ a + b ∧ a + b < 170141183460469231731687303715884105728 := by unfold In64 at ha hb; omega
  go_enter Try.func42, Try.ntmps42
  go_wp2_with fail
  refine (widen_any a _ ha).mono ?_
  rintro e w1 ⟨rfl, b1⟩
  go_wp2_with fail
  refine (widen_any b _ hb).mono ?_
  rintro e w2 ⟨rfl, b2⟩
  go_wp2_with fail
  refine (plus_any a b _).mono ?_
  rintro e w3 ⟨rfl, b3⟩
  go_wp2_with fail
  refine (narrow_any (a + b) _ h1.1 h1.2).mono ?_
  rintro e w4 ⟨rfl, b4⟩
  unfold ans
  go_wp2
  go_ret2
  exact ⟨rfl, andB (andB (andB b1 b2) b3) b4⟩


theorem mul_bd (a b : Int) (ha : In64 a) (hb : In64 b) : -170141183460469231731687303715884105728 ≤ a * b ∧ a * b < 170141183460469231731687303715884105728 := by
  unfold In64 at *
  have h : (a * b).natAbs ≤ 9223372036854775808 * 9223372036854775808 := by
    rw [Int.natAbs_mul]; exact Nat.mul_le_mul (by omega) (by omega)
  omega



/-- What divide answers of numbers that it takes. -/
def leftN (n den : Int) : Int := if In64 (n / den) then n % den else 0
def divV (n den : Int) : Value := .tuple #[.int .i64 (okN (n / den)), .int .i64 (leftN n den), .int .i64 (erN (n / den))]
set_option maxHeartbeats 1000000 in
theorem divide_bad (a num den : Int) (w : World) (hbad : a < 0 ∨ num < 0 ∨ den < 1) :
    Calls Try.prog 40 #[.int .i64 a, .int .i64 num, .int .i64 den] w fun e w' => e = .returned (.tuple #[.int .i64 0, .int .i64 0, .int .i64 1]) ∧ Below w.heap.size w w' := by
  by_cases h1 : a < 0
  · go_enter Try.func40, Try.ntmps40
    go_wp2_with fail
    go_ret3
    exact ⟨rfl, Below.refl _ _⟩
  · by_cases h2 : num < 0
    · go_enter Try.func40, Try.ntmps40
      go_wp2_with fail
      go_ret3
      exact ⟨rfl, Below.refl _ _⟩
    · have h3 : den < 1 := by omega
      go_enter Try.func40, Try.ntmps40
      go_wp2_with fail
      go_ret3
      exact ⟨rfl, Below.refl _ _⟩

theorem div_facts (n den : Int) (h0 : 0 ≤ n) (h1 : n < 170141183460469231731687303715884105728) (hd : 1 ≤ den) (hd2 : In64 den) :
    hi64 n = n / 18446744073709551616 ∧ hi64 n * 18446744073709551616 + lo64 n = n ∧ (den ≤ hi64 n → ¬ In64 (n / den)) ∧
    (hi64 n < den → InU64 (n / den)) ∧ In64 (n % den) := by
  unfold In64 at hd2
  have e : hi64 n = n / 18446744073709551616 := by unfold hi64; omega
  have hm := Int.emod_nonneg n (show den ≠ 0 by omega)
  have hm2 := Int.emod_lt_of_pos n (show 0 < den by omega)
  have hq := Int.ediv_nonneg h0 (show 0 ≤ den by omega)
  have hdm := Int.mul_ediv_add_emod n den
  refine ⟨e, by rw [e]; unfold lo64; omega, ?_, ?_, by unfold In64; omega⟩
  · intro h hc
    unfold In64 at hc
    rw [e] at h
    have h2 : den * (n / den) ≤ den * 9223372036854775807 := Int.mul_le_mul_of_nonneg_left hc.2 (by omega)
    generalize den * (n / den) = p at *
    omega
  · intro h
    rw [e] at h
    refine ⟨hq, ?_⟩
    rw [Int.ediv_lt_iff_lt_mul (by omega)]
    omega

set_option maxHeartbeats 2000000 in
theorem divide_any (a num den : Int) (w : World) (ha : In64 a) (hn : In64 num) (hd : In64 den) (h1 : 0 ≤ a) (h2 : 0 ≤ num) (h3 : 1 ≤ den) :
    Calls Try.prog 40 #[.int .i64 a, .int .i64 num, .int .i64 den] w fun e w' => e = .returned (divV (a * num) den) ∧ Below w.heap.size w w' := by
  have hmb := mul_bd a num ha hn
  have h0 : 0 ≤ a * num := Int.mul_nonneg h1 h2
  obtain ⟨f1, f2, f3, f4, f5⟩ := div_facts (a * num) den h0 hmb.2 h3 hd
  have hpr := Lib.hid (fun w => product_any a num w ha hn)
  have bl := lo64_bd (a * num)
  have bh := hi64_bd (a * num)
  unfold In64 at ha hn hd
  unfold InU64 at bl bh
  have ud : IntKind.u64.wrap den = den := by rw [wrap_u64]; omega
  have F1 := Lib.hid f1; have F2 := Lib.hid f2; have F3 := Lib.hid f3; have F4 := Lib.hid f4; have F5 := Lib.hid f5
  clear f1 f2 f3 f4 f5 h0 hmb
  generalize hN : a * num = n at *
  clear hN
  by_cases hb : den ≤ hi64 n
  · have hv : divV n den = .tuple #[.int .i64 0, .int .i64 0, .int .i64 10] := by simp [divV, leftN, okN, erN, F3.out hb]
    have HV := Lib.hid hv
    clear hv
    go_enter Try.func40, Try.ntmps40
    go_wp2_with fail
    refine (hpr.out _).mono ?_
    simp only [wideV_eq]
    rintro e w1 ⟨rfl, b1⟩
    go_wp2_with fail
    go_ret3
    exact ⟨by rw [HV.out]; rfl, b1.trans ((Below.refl _ _).alloc b1.size _)⟩
  · have hlt : hi64 n < den := by omega
    have hq := F4.out hlt
    have hd6 := Lib.hid (fun w => div64_any (hi64 n) (lo64 n) den w bh.1 hlt (by omega) bl)
    have hwq : wideV (n / den) = .agg #[.int .u64 0, .int .u64 (n / den)] := by
      unfold InU64 at hq
      rw [wideV_eq, show hi64 (n / den) = 0 by unfold hi64; omega, show lo64 (n / den) = n / den by unfold lo64; omega]
    have hnar := Lib.hid (fun w => narrow_any (n / den) w (by unfold InU64 at hq; omega) (by unfold InU64 at hq; omega))
    rw [hwq] at hnar
    have hr := F5.out
    clear hwq
    by_cases hf : In64 (n / den)
    · have hv : divV n den = .tuple #[.int .i64 (n / den), .int .i64 (n % den), .int .i64 0] := by simp [divV, leftN, okN, erN, hf]
      have hans : ans (n / den) = .tuple #[.int .i64 (n / den), .int .i64 0] := by simp [ans, okN, erN, hf]
      rw [hans] at hnar
      have HV := Lib.hid hv
      clear hv hans
      go_enter Try.func40, Try.ntmps40
      go_wp2_with fail
      refine (hpr.out _).mono ?_
      simp only [wideV_eq]
      rintro e w1 ⟨rfl, b1⟩
      go_wp2_with fail
      refine (hd6.out _).mono ?_
      rw [F2.out]
      rintro e w2 ⟨rfl, b2⟩
      go_wp2_with fail
      refine (hnar.out _).mono ?_
      rintro e w3 ⟨rfl, b3⟩
      go_wp2_with fail
      go_ret3
      refine ⟨by have e := HV.out; rw [← wrap64_of _ hr] at e; rw [e]; rfl, ?_⟩
      have c1 : Below w.heap.size w (w1.alloc (.cells #[.int .u64 (hi64 n), .int .u64 (lo64 n)] 64)) := b1.alloc b1.size _
      exact andB (andB c1 b2) b3
    · have hv : divV n den = .tuple #[.int .i64 0, .int .i64 0, .int .i64 10] := by simp [divV, leftN, okN, erN, hf]
      have hans : ans (n / den) = .tuple #[.int .i64 0, .int .i64 10] := by simp [ans, okN, erN, hf]
      rw [hans] at hnar
      have HV := Lib.hid hv
      clear hv hans
      go_enter Try.func40, Try.ntmps40
      go_wp2_with fail
      refine (hpr.out _).mono ?_
      simp only [wideV_eq]
      rintro e w1 ⟨rfl, b1⟩
      go_wp2_with fail
      refine (hd6.out _).mono ?_
      rw [F2.out]
      rintro e w2 ⟨rfl, b2⟩
      go_wp2_with fail
      refine (hnar.out _).mono ?_
      rintro e w3 ⟨rfl, b3⟩
      go_wp2_with fail
      go_ret3
      refine ⟨by rw [HV.out]; rfl, ?_⟩
      have c1 : Below w.heap.size w (w1.alloc (.cells #[.int .u64 (hi64 n), .int .u64 (lo64 n)] 64)) := b1.alloc b1.size _
      exact andB (andB c1 b2) b3

/-- What Down answers. -/
def downV (a num den : Int) : Value := if a < 0 ∨ num < 0 ∨ den < 1 then .tuple #[.int .i64 0, .int .i64 1] else ans (a * num / den)
set_option maxHeartbeats 400000 in
theorem down_any (a num den : Int) (w : World) (ha : In64 a) (hn : In64 num) (hd : In64 den) :
    Calls Try.prog 33 #[.int .i64 a, .int .i64 num, .int .i64 den] w fun e w' => e = .returned (downV a num den) ∧ Below w.heap.size w w' := by
  by_cases hbad : a < 0 ∨ num < 0 ∨ den < 1
  · have hv := Lib.hid (show downV a num den = .tuple #[.int .i64 0, .int .i64 1] by simp [downV, hbad])
    have hc := Lib.hid (fun w => divide_bad a num den w hbad)
    clear hbad
    go_enter Try.func33, Try.ntmps33
    go_wp2_with fail
    refine (hc.out _).mono ?_
    rintro e w1 ⟨rfl, b1⟩
    go_wp2_with fail
    go_ret2
    exact ⟨by rw [hv.out]; rfl, b1⟩
  · have hv := Lib.hid (show downV a num den = ans (a * num / den) by simp [downV, hbad])
    have hc := Lib.hid (fun w => divide_any a num den w ha hn hd (by omega) (by omega) (by omega))
    clear hbad
    go_enter Try.func33, Try.ntmps33
    go_wp2_with fail
    refine (hc.out _).mono ?_
    unfold divV
    rintro e w1 ⟨rfl, b1⟩
    go_wp2_with fail
    go_ret2
    exact ⟨by rw [hv.out]; rfl, b1⟩

/-- How often den goes into n, raised. -/
def upN (n den : Int) : Int := if n % den = 0 then n / den else n / den + 1
/-- What Up answers. -/
def upV (a num den : Int) : Value := if a < 0 ∨ num < 0 ∨ den < 1 then .tuple #[.int .i64 0, .int .i64 1] else ans (upN (a * num) den)
set_option maxHeartbeats 1000000 in
theorem up_any (a num den : Int) (w : World) (ha : In64 a) (hn : In64 num) (hd : In64 den) :
    Calls Try.prog 35 #[.int .i64 a, .int .i64 num, .int .i64 den] w fun e w' => e = .returned (upV a num den) ∧ Below w.heap.size w w' := by
  by_cases hbad : a < 0 ∨ num < 0 ∨ den < 1
  · have hv := Lib.hid (show upV a num den = .tuple #[.int .i64 0, .int .i64 1] by simp [upV, hbad])
    have hc := Lib.hid (fun w => divide_bad a num den w hbad)
    clear hbad
    go_enter Try.func35, Try.ntmps35
    go_wp2_with fail
    refine (hc.out _).mono ?_
    rintro e w1 ⟨rfl, b1⟩
    go_wp2_with fail
    go_ret2
    exact ⟨by rw [hv.out]; rfl, b1⟩
  · have hv := Lib.hid (show upV a num den = ans (upN (a * num) den) by simp [upV, hbad])
    have hc := Lib.hid (fun w => divide_any a num den w ha hn hd (by omega) (by omega) (by omega))
    have hm := mul_bd a num ha hn
    have h0 : 0 ≤ a * num := Int.mul_nonneg (by omega) (by omega)
    have hd1 : 1 ≤ den := by omega
    have hq0 : 0 ≤ a * num / den := Int.ediv_nonneg h0 (by omega)
    clear hbad
    generalize a * num = n at *
    by_cases hf : In64 (n / den)
    · by_cases hz : n % den = 0
      · have hdv : divV n den = .tuple #[.int .i64 (n / den), .int .i64 0, .int .i64 0] := by simp [divV, leftN, okN, erN, hf, hz]
        have hans : ans (upN n den) = .tuple #[.int .i64 (n / den), .int .i64 0] := by simp [ans, upN, hz, okN, erN, hf]
        have hA := Lib.hid hans
        rw [hdv] at hc
        clear hdv hans hz
        go_enter Try.func35, Try.ntmps35
        go_wp2_with fail
        refine (hc.out _).mono ?_
        rintro e w1 ⟨rfl, b1⟩
        go_wp2_with fail
        go_ret2
        exact ⟨by rw [hv.out, hA.out]; rfl, b1⟩
      · have hdv : divV n den = .tuple #[.int .i64 (n / den), .int .i64 (n % den), .int .i64 0] := by simp [divV, leftN, okN, erN, hf]
        have hans : upN n den = n / den + 1 := by simp [upN, hz]
        have hA := Lib.hid hans
        have hb : (n % den == 0) = false := by simp [hz]
        have hadd := Lib.hid (fun w => add_any (n / den) 1 w hf (by unfold In64; omega))
        rw [hdv] at hc
        clear hdv hans hz
        go_enter Try.func35, Try.ntmps35
        go_wp2_with fail
        refine (hc.out _).mono ?_
        rintro e w1 ⟨rfl, b1⟩
        go_wp2_with fail
        refine (hadd.out _).mono ?_
        unfold ans
        rintro e w2 ⟨rfl, b2⟩
        go_wp2_with fail
        go_ret2
        exact ⟨by rw [hv.out, hA.out]; rfl, andB b1 b2⟩
    · have hdv : divV n den = .tuple #[.int .i64 0, .int .i64 0, .int .i64 10] := by simp [divV, leftN, okN, erN, hf]
      have hnf : ¬ In64 (upN n den) := by unfold upN; unfold In64 at *; split <;> omega
      have hans : ans (upN n den) = .tuple #[.int .i64 0, .int .i64 10] := by simp [ans, okN, erN, hnf]
      have hA := Lib.hid hans
      rw [hdv] at hc
      clear hdv hans hnf
      go_enter Try.func35, Try.ntmps35
      go_wp2_with fail
      refine (hc.out _).mono ?_
      rintro e w1 ⟨rfl, b1⟩
      go_wp2_with fail
      go_ret2
      exact ⟨by rw [hv.out, hA.out]; rfl, b1⟩

end Go.Proofs.Ytdkmbbjdoonomaa
