/-
  Pieces of one proof, without what is not wanted: Exacts, Lives01, Ref02, Ref04, Rats.
-/
import Derived.Test.YtbieomgpfhloeaaM01
import Derived.Test.YtbieomgpfhloeaaM02
import Derived.Test.YtbieomgpfhloeaaM06
import Derived.Test.YtbieomgpfhloeaaM13
import Derived.Deep.RegionWith
import Derived.Laws.AppendOwnNone
import Derived.ScopeJumps
import Derived.WalkMore
import Derived.LoopN
set_option linter.unusedSimpArgs false
set_option linter.unusedVariables false
namespace Go.Proofs.Ytbieomgpfhloeaa
open Go.RowKit
def hi64 (x : Int) : Int := x / 18446744073709551616 % 18446744073709551616
def lo64 (x : Int) : Int := x % 18446744073709551616
def wideV (x : Int) : Value := .agg #[.int .u64 (hi64 x), .int .u64 (lo64 x)]
theorem hi64_bd (x : Int) : InU64 (hi64 x) := by unfold hi64 InU64; omega
theorem lo64_bd (x : Int) : InU64 (lo64 x) := by unfold lo64 InU64; omega
theorem wideV_eq (x : Int) : wideV x = .agg #[.int .u64 (hi64 x), .int .u64 (lo64 x)] := rfl
theorem wideV_mk (x a b : Int) (ha : a = hi64 x) (hb : b = lo64 x) : Value.agg #[.int .u64 a, .int .u64 b] = wideV x := by rw [ha, hb]; rfl
def okN (x : Int) : Int := if In64 x then x else 0
def erN (x : Int) : Int := if In64 x then 0 else 10
def ans (x : Int) : Value := .tuple #[.int .i64 (okN x), .int .i64 (erN x)]
set_option maxHeartbeats 400000 in
theorem widen_any (n : Int) (w : World) (h : In64 n) :
  Calls Try.prog 72 #[.int .i64 n] w fun e w' => e = .returned (wideV n) ∧ Below w.heap.size w w' := by
 have hv := Lib.hid (wideV_mk n (IntKind.u64.wrap (n / 9223372036854775808)) (IntKind.u64.wrap n) (by unfold In64 at h; rw [wrap_u64, hi64]; omega) (by rw [wrap_u64, lo64]))
 obtain ⟨h1, h2⟩ := h
 go_enter Try.func72, Try.ntmps72
 go_wp2
 refine bodyPost_ret (v := wideV n) ?_ rfl ⟨rfl, (Below.refl _ _).alloc (Nat.le_refl _) _⟩
 simp [results, Try.results72, go_sem]
 exact hv.out
set_option maxHeartbeats 400000 in
theorem plus_any (x y : Int) (w : World) :
  Calls Try.prog 71 #[wideV x, wideV y] w fun e w' => e = .returned (wideV (x + y)) ∧ Below w.heap.size w w' := by
 have bx := lo64_bd x; have by' := lo64_bd y; have cx := hi64_bd x; have cy := hi64_bd y
 have hv := Lib.hid (wideV_mk (x + y) ((hi64 x + hi64 y + (lo64 x + lo64 y) / 18446744073709551616) % 18446744073709551616) ((lo64 x + lo64 y) % 18446744073709551616) (by unfold hi64 lo64; omega) (by unfold lo64; omega))
 have a1 := fun w => run_Add64 (lo64 x) (lo64 y) 0 bx.1 by'.1 (by omega) (by omega) w
 unfold InU64 at bx by' cx cy
 have a2 := fun w => run_Add64 (hi64 x) (hi64 y) ((lo64 x + lo64 y) / 18446744073709551616) cx.1 cy.1 (by omega) (by omega) w
 simp only [Int.add_zero] at a1
 rw [wideV_eq, wideV_eq]
 go_enter Try.func71, Try.ntmps71
 go_wp2
 refine bodyPost_ret (v := wideV (x + y)) ?_ rfl ⟨rfl, (((Below.refl _ _).alloc (Nat.le_refl _) _).alloc (by simp) _).alloc (by simp; omega) _⟩
 simp [results, Try.results71, go_sem]
 exact hv.out
theorem prod_hi (a b : Int) (ha : In64 a) (hb : In64 b) :
  ((a % 18446744073709551616) * (b % 18446744073709551616) / 18446744073709551616 - (if a < 0 then b else 0) - (if b < 0 then a else 0)) % 18446744073709551616 = hi64 (a * b) := by
 unfold hi64 In64 at *
 obtain ⟨s, hs, hs2⟩ : ∃ s : Int, a % 18446744073709551616 = a + s * 18446744073709551616 ∧ s = if a < 0 then 1 else 0 := ⟨_, by split <;> omega, rfl⟩
 obtain ⟨t, ht, ht2⟩ : ∃ t : Int, b % 18446744073709551616 = b + t * 18446744073709551616 ∧ t = if b < 0 then 1 else 0 := ⟨_, by split <;> omega, rfl⟩
 rw [hs, ht]
 have e1 : (if a < 0 then b else 0) = s * b := by rw [hs2]; split <;> simp
 have e2 : (if b < 0 then a else 0) = t * a := by rw [ht2]; split <;> simp
 rw [e1, e2]
 have e3 : (a + s * 18446744073709551616) * (b + t * 18446744073709551616) = a * b + (s * b + t * a + s * t * 18446744073709551616) * 18446744073709551616 := by
  simp only [Int.add_mul, Int.mul_add]
  rw [show s * 18446744073709551616 * b = s * b * 18446744073709551616 by rw [Int.mul_assoc, Int.mul_comm 18446744073709551616 b, ← Int.mul_assoc],
   show s * 18446744073709551616 * (t * 18446744073709551616) = s * t * 18446744073709551616 * 18446744073709551616 by
    rw [← Int.mul_assoc, Int.mul_assoc s 18446744073709551616 t, Int.mul_comm 18446744073709551616 t, ← Int.mul_assoc],
   show a * (t * 18446744073709551616) = t * a * 18446744073709551616 by rw [← Int.mul_assoc, Int.mul_comm a t]]
  omega
 rw [e3]
 generalize a * b = p at *
 generalize s * b = q at *
 generalize t * a = r at *
 generalize s * t = u at *
 omega
theorem mul_u64_bd (a b : Int) (ha : InU64 a) (hb : InU64 b) : 0 ≤ a * b / 18446744073709551616 ∧ a * b / 18446744073709551616 < 18446744073709551616 := by
 unfold InU64 at *
 have h0 : 0 ≤ a * b := Int.mul_nonneg ha.1 hb.1
 have h1 : a * b ≤ 18446744073709551615 * 18446744073709551615 := Int.mul_le_mul (by omega) (by omega) hb.1 (by omega)
 omega
theorem prod_lo (a b : Int) : (a % 18446744073709551616) * (b % 18446744073709551616) % 18446744073709551616 = lo64 (a * b) := by
 unfold lo64; rw [← Int.mul_emod]
set_option maxHeartbeats 400000 in
theorem product_any (a b : Int) (w : World) (ha : In64 a) (hb : In64 b) :
  Calls Try.prog 68 #[.int .i64 a, .int .i64 b] w fun e w' => e = .returned (wideV (a * b)) ∧ Below w.heap.size w w' := by
 have hh := Lib.hid (prod_hi a b ha hb)
 have hl := Lib.hid (prod_lo a b)
 have ua : IntKind.u64.wrap a = a % 18446744073709551616 := wrap_u64 a
 have ub : IntKind.u64.wrap b = b % 18446744073709551616 := wrap_u64 b
 have ia : InU64 (a % 18446744073709551616) := by unfold InU64; omega
 have ib : InU64 (b % 18446744073709551616) := by unfold InU64; omega
 obtain ⟨a1, a2⟩ := ha
 obtain ⟨b1, b2⟩ := hb
 by_cases na : a < 0 <;> by_cases nb : b < 0
 all_goals
  go_enter Try.func68, Try.ntmps68
  go_wp2_with (go_at_call 15; refine (mul64_any _ _ _ ia ib).mono ?_; rintro e w' ⟨rfl, rfl⟩)
  refine bodyPost_ret (v := wideV (a * b)) ?_ rfl ⟨rfl, (Below.refl _ _).alloc (Nat.le_refl _) _⟩
  simp [results, Try.results68, go_sem]
  refine wideV_mk _ _ _ ?_ hl.out
  rw [← hh.out]
  try simp only [wrap_u64]
  have hP := mul_u64_bd _ _ ia ib
  generalize a % 18446744073709551616 * (b % 18446744073709551616) = p at hP ⊢
  (repeat' split) <;> omega
theorem run_eq_wide (a b c d : Int) (w : World) :
  (Op.equalIn 10000 139 (.agg #[.int .u64 a, .int .u64 b]) (.agg #[.int .u64 c, .int .u64 d])).run Try.prog w = .ok (a == c && b == d) w := by
 have h := run_equalIn_cells (P := Try.prog) 9999 139 22 2 Try.underlying139 (fun w => by kernel_rfl) (fun w => by kernel_rfl) #[.int .u64 a, .int .u64 b] #[.int .u64 c, .int .u64 d] rfl rfl
  (fun i => if i = 0 then a == c else b == d) (by
   intro i x y w hx hy
   match i, hx, hy with
   | 0, hx, hy => simp at hx hy; subst hx hy; exact run_equalIn_int w 9998 22 .u64 .u64 a c Try.underlying22
   | 1, hx, hy => simp at hx hy; subst hx hy; exact run_equalIn_int w 9998 22 .u64 .u64 b d Try.underlying22
   | n + 2, hx, _ => simp at hx) w
 rw [h]
 simp [List.range_succ]
theorem narrow_eq (x : Int) (h1 : -170141183460469231731687303715884105728 ≤ x) (h2 : x < 170141183460469231731687303715884105728) :
  wrap64 (lo64 x) = x ∨ (¬ In64 x ∧ (hi64 (wrap64 (lo64 x)) == hi64 x && lo64 (wrap64 (lo64 x)) == lo64 x) = false) := by
 obtain ⟨h3, h4⟩ := wrap64_def (lo64 x)
 generalize wrap64 (lo64 x) = y at *
 unfold In64 hi64 lo64 at *
 by_cases h : y = x
 ·exact .inl h
 ·right
  constructor
  ·omega
  ·rw [Bool.and_eq_false_iff]; left; rw [beq_eq_false_iff_ne]; omega
set_option maxHeartbeats 400000 in
theorem narrow_any (x : Int) (w : World) (h1 : -170141183460469231731687303715884105728 ≤ x) (h2 : x < 170141183460469231731687303715884105728) :
  Calls Try.prog 70 #[wideV x] w fun e w' => e = .returned (ans x) ∧ Below w.heap.size w w' := by
 have hq := run_eq_wide
 have h64 := (wrap64_def (lo64 x)).1
 have key := narrow_eq x h1 h2
 clear h1 h2
 rw [wideV_eq]
 go_enter Try.func70, Try.ntmps70
 go_wp2
 have hk := Blk.new w #[Value.int IntKind.u64 (hi64 x), Value.int IntKind.u64 (lo64 x)] 139
 have hbw : Below w.heap.size w (w.alloc (Obj.cells #[Value.int IntKind.u64 (hi64 x), Value.int IntKind.u64 (lo64 x)] 139)) := (Below.refl _ _).alloc (Nat.le_refl _) _
 have hs : w.heap.size < (w.alloc (Obj.cells #[Value.int IntKind.u64 (hi64 x), Value.int IntKind.u64 (lo64 x)] 139)).heap.size := by simp
 generalize w.alloc (Obj.cells #[Value.int IntKind.u64 (hi64 x), Value.int IntKind.u64 (lo64 x)] 139) = W at *
 have hc0 : W.cell? ⟨w.heap.size, 0, none⟩ = some (.int .u64 (hi64 x)) := hk.cell 0
 have hc1 : W.cell? ⟨w.heap.size, 1, none⟩ = some (.int .u64 (lo64 x)) := hk.cell 1
 generalize wrap64 (lo64 x) = y at *
 have hfit : In64 x → okN x = x ∧ erN x = 0 := fun h => by simp [okN, erN, h]
 have hnot : ¬ In64 x → okN x = 0 ∧ erN x = 10 := fun h => by simp [okN, erN, h]
 have hk1 := Lib.hid hfit; have hk2 := Lib.hid hnot; clear hfit hnot
 rcases key with rfl | ⟨hn, hne⟩
 ·go_region_held3 (fun w' => w'.cell? ⟨w.heap.size, 0, none⟩ = some (.int .u64 (hi64 y)) ∧ w'.cell? ⟨w.heap.size, 1, none⟩ = some (.int .u64 (lo64 y))) (go_keep)
   (first | (go_at_call 72; refine (widen_any _ _ h64).mono ?_; simp only [wideV_eq]; rintro e w' ⟨rfl, hb⟩; have c0 := (bcell hb).1 _ 0 hs; have c1 := (bcell hb).1 _ 1 hs))
  go_wp2
  go_ret2
  refine ⟨by rw [ans, (hk1.out h64).1, (hk1.out h64).2]; rfl, hbw.trans ((Below.undrew hb).mono (by simp; omega))⟩
 ·go_region_held3 (fun w' => w'.cell? ⟨w.heap.size, 0, none⟩ = some (.int .u64 (hi64 x)) ∧ w'.cell? ⟨w.heap.size, 1, none⟩ = some (.int .u64 (lo64 x))) (go_keep)
   (first | (go_at_call 72; refine (widen_any _ _ h64).mono ?_; simp only [wideV_eq]; rintro e w' ⟨rfl, hb⟩; have c0 := (bcell hb).1 _ 0 hs; have c1 := (bcell hb).1 _ 1 hs))
  go_wp2
  go_ret2
  exact ⟨by rw [ans, (hk2.out hn).1, (hk2.out hn).2]; rfl, hbw.trans ((Below.undrew hb).mono (by simp; omega))⟩
set_option maxHeartbeats 400000 in
theorem add_any (a b : Int) (w : World) (ha : In64 a) (hb : In64 b) :
  Calls Try.prog 55 #[.int .i64 a, .int .i64 b] w fun e w' => e = .returned (ans (a + b)) ∧ Below w.heap.size w w' := by
 have h1 : -170141183460469231731687303715884105728 ≤ a + b ∧ a + b < 170141183460469231731687303715884105728 := by unfold In64 at ha hb; omega
 go_enter Try.func55, Try.ntmps55
 go_wp2_with fail
 refine (widen_any a _ ha).mono ?_
 rintro e w1 ⟨rfl, b1⟩
 go_wp2_with fail
 refine (widen_any b _ hb).mono ?_
 rintro e w2 ⟨rfl, b2⟩
 go_wp2_with fail
 refine (plus_any a b _).mono ?_
 rintro e w3 ⟨rfl, b3⟩
 go_wp2_with fail
 refine (narrow_any (a + b) _ h1.1 h1.2).mono ?_
 rintro e w4 ⟨rfl, b4⟩
 unfold ans
 go_wp2
 go_ret2
 exact ⟨rfl, andB (andB (andB b1 b2) b3) b4⟩
theorem mul_bd (a b : Int) (ha : In64 a) (hb : In64 b) : -170141183460469231731687303715884105728 ≤ a * b ∧ a * b < 170141183460469231731687303715884105728 := by
 unfold In64 at *
 have h : (a * b).natAbs ≤ 9223372036854775808 * 9223372036854775808 := by
  rw [Int.natAbs_mul]; exact Nat.mul_le_mul (by omega) (by omega)
 omega
def leftE (n den : Int) : Int := if In64 (n / den) then n % den else 0
def divV (n den : Int) : Value := .tuple #[.int .i64 (okN (n / den)), .int .i64 (leftE n den), .int .i64 (erN (n / den))]
set_option maxHeartbeats 1000000 in
theorem divide_bad (a num den : Int) (w : World) (hbad : a < 0 ∨ num < 0 ∨ den < 1) :
  Calls Try.prog 54 #[.int .i64 a, .int .i64 num, .int .i64 den] w fun e w' => e = .returned (.tuple #[.int .i64 0, .int .i64 0, .int .i64 1]) ∧ Below w.heap.size w w' := by
 by_cases h1 : a < 0
 ·go_enter Try.func54, Try.ntmps54
  go_wp2_with fail
  go_ret3
  exact ⟨rfl, Below.refl _ _⟩
 ·by_cases h2 : num < 0
  ·go_enter Try.func54, Try.ntmps54
   go_wp2_with fail
   go_ret3
   exact ⟨rfl, Below.refl _ _⟩
  ·have h3 : den < 1 := by omega
   go_enter Try.func54, Try.ntmps54
   go_wp2_with fail
   go_ret3
   exact ⟨rfl, Below.refl _ _⟩
theorem div_facts (n den : Int) (h0 : 0 ≤ n) (h1 : n < 170141183460469231731687303715884105728) (hd : 1 ≤ den) (hd2 : In64 den) :
  hi64 n = n / 18446744073709551616 ∧ hi64 n * 18446744073709551616 + lo64 n = n ∧ (den ≤ hi64 n → ¬ In64 (n / den)) ∧
  (hi64 n < den → InU64 (n / den)) ∧ In64 (n % den) := by
 unfold In64 at hd2
 have e : hi64 n = n / 18446744073709551616 := by unfold hi64; omega
 have hm := Int.emod_nonneg n (show den ≠ 0 by omega)
 have hm2 := Int.emod_lt_of_pos n (show 0 < den by omega)
 have hq := Int.ediv_nonneg h0 (show 0 ≤ den by omega)
 have hdm := Int.mul_ediv_add_emod n den
 refine ⟨e, by rw [e]; unfold lo64; omega, ?_, ?_, by unfold In64; omega⟩
 ·intro h hc
  unfold In64 at hc
  rw [e] at h
  have h2 : den * (n / den) ≤ den * 9223372036854775807 := Int.mul_le_mul_of_nonneg_left hc.2 (by omega)
  generalize den * (n / den) = p at *
  omega
 ·intro h
  rw [e] at h
  refine ⟨hq, ?_⟩
  rw [Int.ediv_lt_iff_lt_mul (by omega)]
  omega
set_option maxHeartbeats 2000000 in
theorem divide_any (a num den : Int) (w : World) (ha : In64 a) (hn : In64 num) (hd : In64 den) (h1 : 0 ≤ a) (h2 : 0 ≤ num) (h3 : 1 ≤ den) :
  Calls Try.prog 54 #[.int .i64 a, .int .i64 num, .int .i64 den] w fun e w' => e = .returned (divV (a * num) den) ∧ Below w.heap.size w w' := by
 have hmb := mul_bd a num ha hn
 have h0 : 0 ≤ a * num := Int.mul_nonneg h1 h2
 obtain ⟨f1, f2, f3, f4, f5⟩ := div_facts (a * num) den h0 hmb.2 h3 hd
 have hpr := Lib.hid (fun w => product_any a num w ha hn)
 have bl := lo64_bd (a * num)
 have bh := hi64_bd (a * num)
 unfold In64 at ha hn hd
 unfold InU64 at bl bh
 have ud : IntKind.u64.wrap den = den := by rw [wrap_u64]; omega
 have F1 := Lib.hid f1; have F2 := Lib.hid f2; have F3 := Lib.hid f3; have F4 := Lib.hid f4; have F5 := Lib.hid f5
 clear f1 f2 f3 f4 f5 h0 hmb
 generalize hN : a * num = n at *
 clear hN
 by_cases hb : den ≤ hi64 n
 ·have hv : divV n den = .tuple #[.int .i64 0, .int .i64 0, .int .i64 10] := by simp [divV, leftE, okN, erN, F3.out hb]
  have HV := Lib.hid hv
  clear hv
  go_enter Try.func54, Try.ntmps54
  go_wp2_with fail
  refine (hpr.out _).mono ?_
  simp only [wideV_eq]
  rintro e w1 ⟨rfl, b1⟩
  go_wp2_with fail
  go_ret3
  exact ⟨by rw [HV.out]; rfl, b1.trans ((Below.refl _ _).alloc b1.size _)⟩
 ·have hlt : hi64 n < den := by omega
  have hq := F4.out hlt
  have hd6 := Lib.hid (fun w => div64_any (hi64 n) (lo64 n) den w bh.1 hlt (by omega) bl)
  have hwq : wideV (n / den) = .agg #[.int .u64 0, .int .u64 (n / den)] := by
   unfold InU64 at hq
   rw [wideV_eq, show hi64 (n / den) = 0 by unfold hi64; omega, show lo64 (n / den) = n / den by unfold lo64; omega]
  have hnar := Lib.hid (fun w => narrow_any (n / den) w (by unfold InU64 at hq; omega) (by unfold InU64 at hq; omega))
  rw [hwq] at hnar
  have hr := F5.out
  clear hwq
  by_cases hf : In64 (n / den)
  ·have hv : divV n den = .tuple #[.int .i64 (n / den), .int .i64 (n % den), .int .i64 0] := by simp [divV, leftE, okN, erN, hf]
   have hans : ans (n / den) = .tuple #[.int .i64 (n / den), .int .i64 0] := by simp [ans, okN, erN, hf]
   rw [hans] at hnar
   have HV := Lib.hid hv
   clear hv hans
   go_enter Try.func54, Try.ntmps54
   go_wp2_with fail
   refine (hpr.out _).mono ?_
   simp only [wideV_eq]
   rintro e w1 ⟨rfl, b1⟩
   go_wp2_with fail
   refine (hd6.out _).mono ?_
   rw [F2.out]
   rintro e w2 ⟨rfl, b2⟩
   go_wp2_with fail
   refine (hnar.out _).mono ?_
   rintro e w3 ⟨rfl, b3⟩
   go_wp2_with fail
   go_ret3
   refine ⟨by have e := HV.out; rw [← wrap64_of _ hr] at e; rw [e]; rfl, ?_⟩
   have c1 : Below w.heap.size w (w1.alloc (.cells #[.int .u64 (hi64 n), .int .u64 (lo64 n)] 139)) := b1.alloc b1.size _
   exact andB (andB c1 b2) b3
  ·have hv : divV n den = .tuple #[.int .i64 0, .int .i64 0, .int .i64 10] := by simp [divV, leftE, okN, erN, hf]
   have hans : ans (n / den) = .tuple #[.int .i64 0, .int .i64 10] := by simp [ans, okN, erN, hf]
   rw [hans] at hnar
   have HV := Lib.hid hv
   clear hv hans
   go_enter Try.func54, Try.ntmps54
   go_wp2_with fail
   refine (hpr.out _).mono ?_
   simp only [wideV_eq]
   rintro e w1 ⟨rfl, b1⟩
   go_wp2_with fail
   refine (hd6.out _).mono ?_
   rw [F2.out]
   rintro e w2 ⟨rfl, b2⟩
   go_wp2_with fail
   refine (hnar.out _).mono ?_
   rintro e w3 ⟨rfl, b3⟩
   go_wp2_with fail
   go_ret3
   refine ⟨by rw [HV.out]; rfl, ?_⟩
   have c1 : Below w.heap.size w (w1.alloc (.cells #[.int .u64 (hi64 n), .int .u64 (lo64 n)] 139)) := b1.alloc b1.size _
   exact andB (andB c1 b2) b3
def downV (a num den : Int) : Value := if a < 0 ∨ num < 0 ∨ den < 1 then .tuple #[.int .i64 0, .int .i64 1] else ans (a * num / den)
set_option maxHeartbeats 400000 in
theorem down_any (a num den : Int) (w : World) (ha : In64 a) (hn : In64 num) (hd : In64 den) :
  Calls Try.prog 81 #[.int .i64 a, .int .i64 num, .int .i64 den] w fun e w' => e = .returned (downV a num den) ∧ Below w.heap.size w w' := by
 by_cases hbad : a < 0 ∨ num < 0 ∨ den < 1
 ·have hv := Lib.hid (show downV a num den = .tuple #[.int .i64 0, .int .i64 1] by simp [downV, hbad])
  have hc := Lib.hid (fun w => divide_bad a num den w hbad)
  clear hbad
  go_enter Try.func81, Try.ntmps81
  go_wp2_with fail
  refine (hc.out _).mono ?_
  rintro e w1 ⟨rfl, b1⟩
  go_wp2_with fail
  go_ret2
  exact ⟨by rw [hv.out]; rfl, b1⟩
 ·have hv := Lib.hid (show downV a num den = ans (a * num / den) by simp [downV, hbad])
  have hc := Lib.hid (fun w => divide_any a num den w ha hn hd (by omega) (by omega) (by omega))
  clear hbad
  go_enter Try.func81, Try.ntmps81
  go_wp2_with fail
  refine (hc.out _).mono ?_
  unfold divV
  rintro e w1 ⟨rfl, b1⟩
  go_wp2_with fail
  go_ret2
  exact ⟨by rw [hv.out]; rfl, b1⟩
def upN (n den : Int) : Int := if n % den = 0 then n / den else n / den + 1
def upV (a num den : Int) : Value := if a < 0 ∨ num < 0 ∨ den < 1 then .tuple #[.int .i64 0, .int .i64 1] else ans (upN (a * num) den)
set_option maxHeartbeats 1000000 in
theorem up_any (a num den : Int) (w : World) (ha : In64 a) (hn : In64 num) (hd : In64 den) :
  Calls Try.prog 37 #[.int .i64 a, .int .i64 num, .int .i64 den] w fun e w' => e = .returned (upV a num den) ∧ Below w.heap.size w w' := by
 by_cases hbad : a < 0 ∨ num < 0 ∨ den < 1
 ·have hv := Lib.hid (show upV a num den = .tuple #[.int .i64 0, .int .i64 1] by simp [upV, hbad])
  have hc := Lib.hid (fun w => divide_bad a num den w hbad)
  clear hbad
  go_enter Try.func37, Try.ntmps37
  go_wp2_with fail
  refine (hc.out _).mono ?_
  rintro e w1 ⟨rfl, b1⟩
  go_wp2_with fail
  go_ret2
  exact ⟨by rw [hv.out]; rfl, b1⟩
 ·have hv := Lib.hid (show upV a num den = ans (upN (a * num) den) by simp [upV, hbad])
  have hc := Lib.hid (fun w => divide_any a num den w ha hn hd (by omega) (by omega) (by omega))
  have hm := mul_bd a num ha hn
  have h0 : 0 ≤ a * num := Int.mul_nonneg (by omega) (by omega)
  have hd1 : 1 ≤ den := by omega
  have hq0 : 0 ≤ a * num / den := Int.ediv_nonneg h0 (by omega)
  clear hbad
  generalize a * num = n at *
  by_cases hf : In64 (n / den)
  ·by_cases hz : n % den = 0
   ·have hdv : divV n den = .tuple #[.int .i64 (n / den), .int .i64 0, .int .i64 0] := by simp [divV, leftE, okN, erN, hf, hz]
    have hans : ans (upN n den) = .tuple #[.int .i64 (n / den), .int .i64 0] := by simp [ans, upN, hz, okN, erN, hf]
    have hA := Lib.hid hans
    rw [hdv] at hc
    clear hdv hans hz
    go_enter Try.func37, Try.ntmps37
    go_wp2_with fail
    refine (hc.out _).mono ?_
    rintro e w1 ⟨rfl, b1⟩
    go_wp2_with fail
    go_ret2
    exact ⟨by rw [hv.out, hA.out]; rfl, b1⟩
   ·have hdv : divV n den = .tuple #[.int .i64 (n / den), .int .i64 (n % den), .int .i64 0] := by simp [divV, leftE, okN, erN, hf]
    have hans : upN n den = n / den + 1 := by simp [upN, hz]
    have hA := Lib.hid hans
    have hb : (n % den == 0) = false := by simp [hz]
    have hadd := Lib.hid (fun w => add_any (n / den) 1 w hf (by unfold In64; omega))
    rw [hdv] at hc
    clear hdv hans hz
    go_enter Try.func37, Try.ntmps37
    go_wp2_with fail
    refine (hc.out _).mono ?_
    rintro e w1 ⟨rfl, b1⟩
    go_wp2_with fail
    refine (hadd.out _).mono ?_
    unfold ans
    rintro e w2 ⟨rfl, b2⟩
    go_wp2_with fail
    go_ret2
    exact ⟨by rw [hv.out, hA.out]; rfl, andB b1 b2⟩
  ·have hdv : divV n den = .tuple #[.int .i64 0, .int .i64 0, .int .i64 10] := by simp [divV, leftE, okN, erN, hf]
   have hnf : ¬ In64 (upN n den) := by unfold upN; unfold In64 at *; split <;> omega
   have hans : ans (upN n den) = .tuple #[.int .i64 0, .int .i64 10] := by simp [ans, okN, erN, hnf]
   have hA := Lib.hid hans
   rw [hdv] at hc
   clear hdv hans hnf
   go_enter Try.func37, Try.ntmps37
   go_wp2_with fail
   refine (hc.out _).mono ?_
   rintro e w1 ⟨rfl, b1⟩
   go_wp2_with fail
   go_ret2
   exact ⟨by rw [hv.out, hA.out]; rfl, b1⟩
end Go.Proofs.Ytbieomgpfhloeaa
namespace Go.Proofs.Ytbieomgpfhloeaa
open Go.RowKit
theorem ans_of (x : Int) (h : In64 x) : ans x = .tuple #[.int .i64 x, .int .i64 0] := by simp [ans, okN, erN, h]
theorem ans_not (x : Int) (h : ¬ In64 x) : ans x = .tuple #[.int .i64 0, .int .i64 10] := by simp [ans, okN, erN, h]
end Go.Proofs.Ytbieomgpfhloeaa
namespace Go.Proofs.Ytbieomgpfhloeaa
open Go.RowKit
theorem gcd_step (x y k : Int) : Int.gcd (x - y * k) y = Int.gcd x y := by
 rw [Int.sub_eq_add_neg, ← Int.mul_neg]
 exact Int.gcd_add_mul_left_left y x (-k)
def MayN (n d : Int) : Prop := 1 ≤ n ∧ 1 ≤ d ∧ n ≤ 1099511627776 ∧ d ≤ 1099511627776 ∧ Int.gcd n d = 1
instance (n d : Int) : Decidable (MayN n d) := inferInstanceAs (Decidable (_ ∧ _))
def mayB (n d : Int) : Bool := decide (MayN n d)
def downV2 (a n d : Int) : Value := if mayB n d then downV a n d else .tuple #[.int .i64 0, .int .i64 1]
def upV2 (a n d : Int) : Value := if mayB n d then upV a n d else .tuple #[.int .i64 0, .int .i64 1]
end Go.Proofs.Ytbieomgpfhloeaa
namespace Go.Proofs.Ytbieomgpfhloeaa
open Go.RowKit
def Of.may (x : Of) : Prop := (1 ≤ x.ow ∧ x.ow ≤ 16) ∧ (1 ≤ x.sl ∧ x.sl ≤ 8) ∧ (1 ≤ x.bu ∧ x.bu ≤ 8) ∧ x.sl ≠ x.bu ∧ (1 ≤ x.lf ∧ x.lf ≤ 1099511627776) ∧ mayB x.nu x.de = true
instance (x : Of) : Decidable x.may := by unfold Of.may; infer_instance
def findO (l : List Of) (s : Int) : Option Of := l.find? fun x => x.se == s
def noOf : Of := ⟨0, 0, 0, 0, 0, 0, 0⟩
def foundV (o : Option Of) : Value := match o with | some x => .tuple #[x.val, .bool true] | none => .tuple #[noOf.val, .bool false]
theorem findO_none {l : List Of} {s : Int} (hn : ∀ x ∈ l, (x.se == s) = false) : findO l s = none := by
 unfold findO
 rw [List.find?_eq_none]
 intro x hx
 simp [hn x hx]
theorem take_all_next {q : Of → Prop} {l : List Of} {k : Nat} (h : k < l.length) (hn : ∀ x ∈ l.take k, q x) (hx : q l[k]) : ∀ x ∈ l.take (k + 1), q x := by
 rw [List.take_succ_eq_append_getElem h]
 intro x hx'
 rcases List.mem_append.1 hx' with h1 | h1
 ·exact hn x h1
 ·rw [List.mem_singleton] at h1; rw [h1]; exact hx
theorem of_cells {w : World} {b : Nat} {ls : List Of} (h : ∀ j, j < ls.length * 7 → w.cell? ⟨b, j, none⟩ = (ofCells ls)[j]?) {k : Nat} (hk : k < ls.length) :
  w.cell? ⟨b, k * 7, none⟩ = some (.int .u64 ls[k].se) ∧ w.cell? ⟨b, k * 7 + 1, none⟩ = some (.int .u8 ls[k].ow) ∧ w.cell? ⟨b, k * 7 + 2, none⟩ = some (.int .u8 ls[k].sl) ∧ w.cell? ⟨b, k * 7 + 3, none⟩ = some (.int .u8 ls[k].bu) ∧ w.cell? ⟨b, k * 7 + 4, none⟩ = some (.int .i64 ls[k].lf) ∧ w.cell? ⟨b, k * 7 + 5, none⟩ = some (.int .i64 ls[k].nu) ∧ w.cell? ⟨b, k * 7 + 6, none⟩ = some (.int .i64 ls[k].de) := by
 refine ⟨?_, ?_, ?_, ?_, ?_, ?_, ?_⟩
 ·exact (h (k * 7 + 0) (by omega)).trans (ofCells_get ls k 0 (by omega) hk)
 ·exact (h (k * 7 + 1) (by omega)).trans (ofCells_get ls k 1 (by omega) hk)
 ·exact (h (k * 7 + 2) (by omega)).trans (ofCells_get ls k 2 (by omega) hk)
 ·exact (h (k * 7 + 3) (by omega)).trans (ofCells_get ls k 3 (by omega) hk)
 ·exact (h (k * 7 + 4) (by omega)).trans (ofCells_get ls k 4 (by omega) hk)
 ·exact (h (k * 7 + 5) (by omega)).trans (ofCells_get ls k 5 (by omega) hk)
 ·exact (h (k * 7 + 6) (by omega)).trans (ofCells_get ls k 6 (by omega) hk)
theorem wpList_store_whole {P : Program} {ops : Array Oper} {rest : List Oper} {o : Oper} {a : Act} {w : World} {Q : Exit → Act → World → Prop} (hgd : o.guard = none) (ty : TypeId) (x y : Operand) (ho : o.op = .store ty x y)
  (g : Nat) (cells : Array Value) (hx : a.eval x = .pointer (some ⟨g, 0, none⟩)) (hy : a.eval y = .agg cells)
  (t : TypeId) (old : Array Value) (hg : w.heap[g]? = some (.cells old t (0, 0))) (hi : (P.info? ty).map (·.size) = some cells.size)
  (hold : old.size = cells.size) (h1 : cells.all (·.oneCell') = true)
  (h : wpList P ops Q rest (a.put o.dst undef) (w.setRow g cells)) : wpList P ops Q (o :: rest) a w :=
 wpList_plain hgd fun _ hK => wp_store_row ty x y ho g cells hx hy t old hg hi hold h1 (hK _ _ h)
end Go.Proofs.Ytbieomgpfhloeaa
namespace Go.Proofs.Ytbieomgpfhloeaa
open Go.RowKit
def Of.put (s n : Int) (x : Of) : Of := if x.se = s then { x with lf := n } else x
def setO (l : List Of) (s n : Int) : List Of := (l.map (Of.put s n)).filter fun x => decide (0 < x.lf)
theorem setO_len (l : List Of) (s n : Int) : (setO l s n).length ≤ l.length := by
 unfold setO
 exact Nat.le_trans (List.length_filter_le _ _) (by simp)
def cancelV (l : List Of) (ow s : Int) : Int := match findO l s with | none => 0 | some x => if x.ow = ow then x.lf else 0
def takeE (l : List Of) (s n : Int) : Int := match findO l s with | none => 7 | some x => if n < 1 ∨ x.lf < n then 1 else 0
def leftO (l : List Of) (s : Int) : Int := match findO l s with | none => 0 | some x => x.lf
def takeL (l : List Of) (s n : Int) : List Of := if takeE l s n = 0 then setO l s (leftO l s - n) else l
theorem findO_mem {l : List Of} {s : Int} {x : Of} (h : findO l s = some x) : x ∈ l ∧ x.se = s := by
 unfold findO at h
 exact ⟨List.mem_of_find?_eq_some h, by have := List.find?_some h; simpa using this⟩
end Go.Proofs.Ytbieomgpfhloeaa
namespace Go.Proofs.Ytbieomgpfhloeaa
open Go.RowKit
end Go.Proofs.Ytbieomgpfhloeaa
namespace Go.Proofs.Ytbieomgpfhloeaa
open Go.RowKit
theorem gcd_mod (a b : Int) : Int.gcd b (a % b) = Int.gcd a b := by
 have := gcd_step a b (a / b)
 rw [show a - b * (a / b) = a % b by have := Int.mul_ediv_add_emod a b; omega] at this
 rw [Int.gcd_comm, this]
set_option maxHeartbeats 1000000 in
theorem divisor_any (a b : Int) (w : World) (ha : In64 a) (hb : In64 b) (h1 : 1 ≤ a) (h2 : 1 ≤ b) :
  Calls Try.prog 82 #[.int .i64 a, .int .i64 b] w fun e w' => e = .returned (.int .i64 (Int.gcd a b)) ∧ Below w.heap.size w w' := by
 have HA := Lib.hid ha; have HB := Lib.hid hb
 clear ha hb
 go_enter Try.func82, Try.ntmps82
 go_wp2
 refine wp_scope_jumps 0 (fun a' w' => Below w.heap.size w w' ∧ ∃ (x y : Int) (u2 u3 u4 u5 u6 u7 u8 u9 u10 u11 : Value), a' = { tmps := #[.int .i64 x, .int .i64 y, u2, u3, u4, u5, u6, u7, u8, u9, u10, u11], defers := [] } ∧ 1 ≤ x ∧ 0 ≤ y ∧ x ≤ 9223372036854775807 ∧ y ≤ 9223372036854775807 ∧ Int.gcd x y = Int.gcd a b) (fun a' _ => (intOf (a'.tmps.getD 1 undef)).toNat) rfl ?_ ?_
 ·by_cases hb : b = 0
  ·omega
  ·have hnb : (b == 0) = false := by simp; omega
   have HG := Lib.hid (gcd_mod a b)
   have HLT := Lib.hid (Int.emod_lt_of_pos a (show 0 < b by omega)); have HGE := Lib.hid (Int.emod_nonneg a hb)
   go_wp2
   go_step3
   go_wp2
   go_region
   all_goals
    go_wp2
    go_step3
    exact ⟨rfl, (Below.refl _ _).drew, b, _, _, _, _, _, _, _, _, _, _, _, rfl, h2, HGE.out, HB.out.2, by have := HLT.out; have := HB.out.2; omega, HG.out⟩
 ·rintro a' w' ⟨bel, x, y, u2, u3, u4, u5, u6, u7, u8, u9, u10, u11, rfl, hx, hy, hx2, hy2, hg⟩
  have HG := Lib.hid hg
  clear hg
  by_cases hb : y = 0
  ·subst hb
   have e : ((Int.gcd x 0 : Nat) : Int) = x := by rw [Int.gcd_zero_right]; omega
   have hnn : ((0 : Int) == 0) = true := rfl
   go_wp2
   simp only [Exit.jump]
   go_ret
   exact ⟨by rw [← HG.out, e]; rfl, bel⟩
  ·have hnb : (y == 0) = false := by simp; omega
   have HS := Lib.hid (gcd_mod x y)
   have HLT := Lib.hid (Int.emod_lt_of_pos x (show 0 < y by omega)); have HGE := Lib.hid (Int.emod_nonneg x hb)
   go_wp2
   go_region
   all_goals
    go_wp2
    go_step3
    refine ⟨rfl, ⟨bel.drew, y, _, _, _, _, _, _, _, _, _, _, _, rfl, by omega, HGE.out, hy2, by have := HLT.out; omega, by rw [HS.out]; exact HG.out⟩, ?_⟩
    have := HLT.out; have := HGE.out
    simp [intOf]; omega
def ofRN (n d : Int) : Int := if n < 1 ∨ d < 1 then 0 else if 1099511627776 < n / Int.gcd n d ∨ 1099511627776 < d / Int.gcd n d then 0 else n / Int.gcd n d
def ofD (n d : Int) : Int := if n < 1 ∨ d < 1 then 0 else if 1099511627776 < n / Int.gcd n d ∨ 1099511627776 < d / Int.gcd n d then 0 else d / Int.gcd n d
def ofE (n d : Int) : Int := if n < 1 ∨ d < 1 then 1 else if 1099511627776 < n / Int.gcd n d ∨ 1099511627776 < d / Int.gcd n d then 10 else 0
def ofV (n d : Int) : Value := .tuple #[.agg #[.int .i64 (ofRN n d), .int .i64 (ofD n d)], .int .i64 (ofE n d)]
theorem ofV_arg {n d : Int} (h : n < 1 ∨ d < 1) : ofV n d = .tuple #[.agg #[.int .i64 0, .int .i64 0], .int .i64 1] := by simp [ofV, ofRN, ofD, ofE, h]
theorem ofV_over {n d g : Int} (h : 1 ≤ n) (h2 : 1 ≤ d) (hg : (Int.gcd n d : Int) = g) (ho : 1099511627776 < n / g ∨ 1099511627776 < d / g) : ofV n d = .tuple #[.agg #[.int .i64 0, .int .i64 0], .int .i64 10] := by
 have hn : ¬ (n < 1 ∨ d < 1) := by omega
 subst hg
 simp [ofV, ofRN, ofD, ofE, hn, ho]
theorem ofV_good {n d g : Int} (h : 1 ≤ n) (h2 : 1 ≤ d) (hg : (Int.gcd n d : Int) = g) (ho : ¬ (1099511627776 < n / g ∨ 1099511627776 < d / g)) : ofV n d = .tuple #[.agg #[.int .i64 (n / g), .int .i64 (d / g)], .int .i64 0] := by
 have hn : ¬ (n < 1 ∨ d < 1) := by omega
 subst hg
 simp [ofV, ofRN, ofD, ofE, hn, ho]
theorem gcd_bd {n d : Int} (h : 1 ≤ n) (hd : 1 ≤ d) : (1 : Int) ≤ Int.gcd n d ∧ 0 ≤ n / Int.gcd n d ∧ n / Int.gcd n d ≤ n ∧ 0 ≤ d / Int.gcd n d ∧ d / Int.gcd n d ≤ d := by
 have h1 : 0 < Int.gcd n d := Int.gcd_pos_of_ne_zero_left _ (by omega)
 exact ⟨by omega, Int.ediv_nonneg (by omega) (by omega), Int.ediv_le_self _ (by omega), Int.ediv_nonneg (by omega) (by omega), Int.ediv_le_self _ (by omega)⟩
set_option maxHeartbeats 1000000 in
theorem of_arg (n d : Int) (w : World) (h : n < 1 ∨ d < 1) :
  Calls Try.prog 67 #[.int .i64 n, .int .i64 d] w fun e w' => e = .returned (ofV n d) ∧ Below w.heap.size w w' := by
 rw [ofV_arg h]
 have q2 : Blk (w.alloc (.cells #[.int .i64 0, .int .i64 0] 56)) w.heap.size #[.int .i64 0, .int .i64 0] 56 := Blk.new _ _ _
 have hlt := q2.lt
 clear q2
 have hs : n < 1 ∨ (1 ≤ n ∧ d < 1) := by omega
 clear h
 rcases hs with h1 | ⟨h1, h2⟩
 all_goals
  go_enter Try.func67, Try.ntmps67
  go_wp2
  refine bodyPost_ret (v := .tuple #[.agg #[.int .i64 0, .int .i64 0], .int .i64 1]) (results_cell_and rfl _ _ w.heap.size 56 #[.int .i64 0, .int .i64 0] _ _ rfl (Blk.new w #[.int .i64 0, .int .i64 0] 56).out Try.underlying56 rfl (by kernel_rfl) rfl) rfl ⟨rfl, ?_⟩
  exact ((Below.refl _ _).alloc (Nat.le_refl _) _)
set_option maxHeartbeats 1000000 in
theorem of_two (n d g x y : Int) (w : World) (h1 : 1 ≤ n) (h2 : 1 ≤ d) (hn : In64 n) (hd : In64 d) (hg : (Int.gcd n d : Int) = g) (hx : n / g = x) (hy : d / g = y) (hx0 : 0 ≤ x) (hy0 : 0 ≤ y) (hxn : x ≤ n) (hyd : y ≤ d) (hg0 : 1 ≤ g) :
  Calls Try.prog 67 #[.int .i64 n, .int .i64 d] w fun e w' => e = .returned (if 1099511627776 < x ∨ 1099511627776 < y then .tuple #[.agg #[.int .i64 0, .int .i64 0], .int .i64 10] else .tuple #[.agg #[.int .i64 x, .int .i64 y], .int .i64 0]) ∧ Below w.heap.size w w' := by
 have c := Lib.hid (fun w => divisor_any n d w hn hd h1 h2)
 rw [hg] at c
 have e1 : Int.tdiv n g = x := by rw [← hx]; exact Int.tdiv_eq_ediv_of_nonneg (by omega)
 have e2 : Int.tdiv d g = y := by rw [← hy]; exact Int.tdiv_eq_ediv_of_nonneg (by omega)
 have ew1 : wrap64 x = x := wrap64_of x ⟨by omega, by have := hn.2; omega⟩
 have ew2 : wrap64 y = y := wrap64_of y ⟨by omega, by have := hd.2; omega⟩
 have q2 : Blk (w.alloc (.cells #[.int .i64 0, .int .i64 0] 56)) w.heap.size #[.int .i64 0, .int .i64 0] 56 := Blk.new _ _ _
 have b0 : Below w.heap.size w (w.alloc (.cells #[.int .i64 0, .int .i64 0] 56)) := (Below.refl _ _).alloc (Nat.le_refl _) _
 have Q2 := Lib.hid q2; have B0 := Lib.hid b0
 have hs : 1099511627776 < x ∨ (x ≤ 1099511627776 ∧ 1099511627776 < y) ∨ (x ≤ 1099511627776 ∧ y ≤ 1099511627776) := by omega
 clear q2 b0 hn hd
 rcases hs with o1 | ⟨o1, o2⟩ | ⟨o1, o2⟩
 ·rw [if_pos (.inl o1)]
  go_enter Try.func67, Try.ntmps67
  go_wp2_with fail
  refine (c.out _).mono ?_
  rintro e w1 ⟨rfl, bw⟩
  have k1 := Q2.out.below bw Q2.out.lt
  have B1 := Lib.hid (B0.out.trans (bw.mono (by simp)))
  have d0 := k1.cell 0; have d1 := k1.cell 1
  simp at d0 d1
  have f1 := k1.frozen
  have hz := k1.lt
  have K1 := Lib.hid k1
  clear k1 bw
  go_wp2
  go_region
  all_goals
   go_wp2
   refine bodyPost_ret (v := .tuple #[.agg #[.int .i64 0, .int .i64 0], .int .i64 10]) (results_cell_and rfl _ _ w.heap.size 56 #[.int .i64 0, .int .i64 0] _ _ rfl (Blk.drew (((K1.out.set 0 (.int .i64 0)).set 1 (.int .i64 0)).alloc _)).out Try.underlying56 rfl (by kernel_rfl) rfl) rfl ⟨rfl, ?_⟩
   first
   | exact ((((B1.out.alloc B1.out.size _).drew).setCell (Nat.le_refl _) _).setCell (Nat.le_refl _) _)
   | exact ((((B1.out.setCell (Nat.le_refl _) _).setCell (Nat.le_refl _) _).alloc (by simpa using B1.out.size) _).drew)
 ·rw [if_pos (.inr o2)]
  go_enter Try.func67, Try.ntmps67
  go_wp2_with fail
  refine (c.out _).mono ?_
  rintro e w1 ⟨rfl, bw⟩
  have k1 := Q2.out.below bw Q2.out.lt
  have B1 := Lib.hid (B0.out.trans (bw.mono (by simp)))
  have d0 := k1.cell 0; have d1 := k1.cell 1
  simp at d0 d1
  have f1 := k1.frozen
  have hz := k1.lt
  have K1 := Lib.hid k1
  clear k1 bw
  go_wp2
  go_region
  all_goals
   go_wp2
   refine bodyPost_ret (v := .tuple #[.agg #[.int .i64 0, .int .i64 0], .int .i64 10]) (results_cell_and rfl _ _ w.heap.size 56 #[.int .i64 0, .int .i64 0] _ _ rfl (Blk.drew (((K1.out.set 0 (.int .i64 0)).set 1 (.int .i64 0)).alloc _)).out Try.underlying56 rfl (by kernel_rfl) rfl) rfl ⟨rfl, ?_⟩
   first
   | exact ((((B1.out.alloc B1.out.size _).drew).setCell (Nat.le_refl _) _).setCell (Nat.le_refl _) _)
   | exact ((((B1.out.setCell (Nat.le_refl _) _).setCell (Nat.le_refl _) _).alloc (by simpa using B1.out.size) _).drew)
 ·rw [if_neg (by omega)]
  go_enter Try.func67, Try.ntmps67
  go_wp2_with fail
  refine (c.out _).mono ?_
  rintro e w1 ⟨rfl, bw⟩
  have k1 := Q2.out.below bw Q2.out.lt
  have B1 := Lib.hid (B0.out.trans (bw.mono (by simp)))
  have d0 := k1.cell 0; have d1 := k1.cell 1
  simp at d0 d1
  have f1 := k1.frozen
  have hz := k1.lt
  have K1 := Lib.hid k1
  clear k1 bw
  go_wp2
  go_region
  all_goals
   go_wp2
   refine bodyPost_ret (v := .tuple #[.agg #[.int .i64 x, .int .i64 y], .int .i64 0]) (results_cell_and rfl _ _ w.heap.size 56 #[.int .i64 x, .int .i64 y] _ _ rfl (Blk.drew (((K1.out.set 0 (.int .i64 x)).set 1 (.int .i64 y)).alloc _)).out Try.underlying56 rfl (by kernel_rfl) rfl) rfl ⟨rfl, ?_⟩
   first
   | exact ((((B1.out.alloc B1.out.size _).drew).setCell (Nat.le_refl _) _).setCell (Nat.le_refl _) _)
   | exact ((((B1.out.setCell (Nat.le_refl _) _).setCell (Nat.le_refl _) _).alloc (by simpa using B1.out.size) _).drew)
theorem of_rat (n d : Int) (w : World) (hn : In64 n) (hd : In64 d) :
  Calls Try.prog 67 #[.int .i64 n, .int .i64 d] w fun e w' => e = .returned (ofV n d) ∧ Below w.heap.size w w' := by
 by_cases h : n < 1 ∨ d < 1
 ·exact of_arg n d w h
 ·obtain ⟨g0, x0, xn, y0, yd⟩ := gcd_bd (n := n) (d := d) (by omega) (by omega)
  have := of_two n d _ _ _ w (by omega) (by omega) hn hd rfl rfl rfl x0 y0 xn yd g0
  refine this.mono fun e w' ⟨he, hb⟩ => ⟨?_, hb⟩
  rw [he]
  by_cases ho : 1099511627776 < n / Int.gcd n d ∨ 1099511627776 < d / Int.gcd n d
  ·rw [if_pos ho, ofV_over (by omega) (by omega) rfl ho]
  ·rw [if_neg ho, ofV_good (by omega) (by omega) rfl ho]
end Go.Proofs.Ytbieomgpfhloeaa
