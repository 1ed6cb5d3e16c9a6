/-
  The document's answers for layer 1, continued: a whole number as a number of 64 bits, sums and products.
-/
import Derived.Test.YtdbdeodcldogmaaRef01b
import Derived.Test.YtdbdeodcldogmaaLives01
import Derived.Test.YtdbdeodcldogmaaRegion
namespace Go.Proofs.Ytdbdeodcldogmaa
open Go.RowKit
set_option linter.unusedSimpArgs false
set_option linter.unusedVariables false

theorem half_bit (x k : Nat) : x / 2 ^ k = 2 * (x / 2 ^ (k + 1)) + (if x.testBit k then 1 else 0) := by
  rw [← bit_lt, Nat.pow_succ, ← Nat.div_div_eq_div_mul]; omega
theorem two_pow_64_le {k : Nat} (h : 64 ≤ k) : (18446744073709551616 : Nat) ≤ 2 ^ k := by
  have := Nat.pow_le_pow_right (n := 2) (by omega) h
  exact this


theorem build_whole2 (b : Bool) (f : Nat → Bool) (w : World) : (Instr.build 110 #[(0, .bool b), (1, .agg (arr f))]).run Try.prog w = .ok (.agg (whole b f)) w := by
  have h : (Instr.build 110 #[(0, .bool b), (1, .agg (arr f))]).run Try.prog = fun w => .ok (.agg (whole b f)) w := by
    kernel_rfl
  rw [h]
theorem whole_range {w : World} {g : Nat} {neg : Bool} {f : Nat → Bool} {t : TypeId} (h : Blk w g (whole neg f) t) : w.rangeAt g 1 (arr f).toList := by
  intro j v hv
  rw [h.cell (1 + j)]
  have hj : j < 192 := by
    rcases Nat.lt_or_ge j 192 with h | h
    · exact h
    · rw [List.getElem?_eq_none (by simp [arr_size]; omega)] at hv; cases hv
  rw [whole_get _ _ j hj]
  simpa [arr_get f j hj] using hv

theorem info_arr_l (f : Nat → Bool) : (Try.prog.info? 108).map (·.size) = some (arr f).toList.length := by rw [Array.length_toList]; exact info_arr f

/-- The sum of two whole numbers, as a sign and a size. -/
def togSign (na nb : Bool) (x y : Nat) : Bool := if na = nb then na else if x < y then nb else na
def togSize (na nb : Bool) (x y : Nat) : Nat := if na = nb then x + y else if x < y then y - x else x - y


end Go.Proofs.Ytdbdeodcldogmaa

/-
  The document's answers for layer 1, continued: products, quotients, and the answers themselves.
-/
namespace Go.Proofs.Ytdbdeodcldogmaa
open Go.RowKit
set_option linter.unusedSimpArgs false
set_option linter.unusedVariables false

theorem times_step (x y k : Nat) : x * (y % 2 ^ (k + 1)) = if y.testBit k then x * (y % 2 ^ k) + x * 2 ^ k else x * (y % 2 ^ k) := by
  rw [bit_val, Nat.mul_add]
  split <;> simp
/-- Times, at the head of its loop. -/
def TimesAt (na nb : Bool) (x y : Nat) (w : World) (i : Value) (wr : World) : Prop :=
  ∃ k : Nat, k ≤ 64 ∧ i = .int .i64 k ∧ Blk wr w.heap.size (whole na x.testBit) 110 ∧ Blk wr (w.heap.size + 1) (whole nb y.testBit) 110 ∧
    Blk wr (w.heap.size + 1 + 1) (whole false fun _ => false) 110 ∧ Blk wr (w.heap.size + 1 + 1 + 1) (whole (!(na == nb)) (x * (y % 2 ^ k)).testBit) 110 ∧ Below w.heap.size w wr
set_option maxHeartbeats 4000000 in
set_option maxRecDepth 100000 in
theorem times_any (na nb : Bool) (x y : Nat) (w : World) (hy : y < 18446744073709551616) :
    Calls Try.prog 67 #[wholeV na x, wholeV nb y] w fun e w' => e = .returned (wholeV (!(na == nb)) (x * y)) ∧ Below w.heap.size w w' := by
  have hz := zero_whole
  have hne := whole_ne; have hs0 := whole_set0
  have HY := Lib.hid hy
  clear hy
  unfold wholeV
  have k1 : Blk ((((w.alloc (.cells (whole na x.testBit) 110)).alloc (.cells (whole nb y.testBit) 110)).alloc (.cells (whole false fun _ => false) 110)).alloc (.cells (whole false fun _ => false) 110)) (w.heap.size + 1 + 1 + 1) (whole false fun _ => false) 110 := Blk.newAt _ _ _ (by simp)
  have c1 : (((w.alloc (.cells (whole na x.testBit) 110)).alloc (.cells (whole nb y.testBit) 110)).alloc (.cells (whole false fun _ => false) 110)).cell? ⟨w.heap.size, 0, none⟩ = some (.bool na) := by
    have := (((Blk.new w (whole na x.testBit) 110).alloc (.cells (whole nb y.testBit) 110)).alloc (.cells (whole false fun _ => false) 110)).cell 0
    rw [whole_get0] at this; exact this
  have c2 : (((w.alloc (.cells (whole na x.testBit) 110)).alloc (.cells (whole nb y.testBit) 110)).alloc (.cells (whole false fun _ => false) 110)).cell? ⟨w.heap.size + 1, 0, none⟩ = some (.bool nb) := by
    have := ((Blk.newAt (w.alloc (.cells (whole na x.testBit) 110)) (whole nb y.testBit) 110 (g := w.heap.size + 1) (by simp)).alloc (.cells (whole false fun _ => false) 110)).cell 0
    rw [whole_get0] at this; exact this
  go_enter Try.func67, Try.ntmps67
  go_wp2_with ((with_reducible refine wpList_store_row ?_ 110 (.tmp 5) (.tmp 12) ?_ (w.heap.size + 1 + 1 + 1) (whole (!(na == nb)) fun _ => false) ?_ ?_ 110 _ k1.out (info_whole _ _) (by simp only [whole_size]) (whole_one _ _) ?_); exact rfl; exact rfl; exact rfl; exact rfl)
  go_loopw [6] (TimesAt na nb x y w) (fun i _ => 64 - (intOf i).toNat)
  case atStart =>
    refine ⟨0, by omega, rfl, ?_, ?_, ?_, ?_, below_setRow (((((Below.refl _ _).alloc (Nat.le_refl _) _).alloc (by simp) _).alloc (by simp; omega) _).alloc (by simp; omega) _) (by omega) _⟩
    · exact ((((Blk.new _ _ _).alloc _).alloc _).alloc _).rowOther (by omega)
    · exact (((Blk.newAt _ _ _ (by simp)).alloc _).alloc _).rowOther (by omega)
    · exact ((Blk.newAt _ _ _ (by simp)).alloc _).rowOther (by omega)
    · rw [show x * (y % 2 ^ 0) = 0 by simp [Nat.mod_one], show (Nat.testBit 0) = fun _ => false from funext Nat.zero_testBit]
      exact k1.row
  case round =>
    obtain ⟨k, hk, rfl, b1, b2, b3, b4, hb⟩ := hrel
    by_cases hkl : (k : Int) < 64
    · have hcell : wr.cell? ⟨w.heap.size + 1, 1 + k, none⟩ = some (.bool (y.testBit k)) := by rw [b2.cell (1 + k)]; exact whole_get _ _ k (by omega)
      have hst := Lib.hid (times_step x y k)
      have hs4 := b4.lt
      cases hbit : y.testBit k
      · rw [hbit] at hcell hst
        clear hbit
        go_wp2
        go_roundw
        case rel => exact ⟨k + 1, by omega, by go_num, b1, b2, b3, by rw [hst.out]; simpa using b4, hb⟩
        case measure => simp [intOf] <;> omega
      · rw [hbit] at hcell hst
        clear hbit
        have csh := Lib.hid (fun w => rshift_any x k w (by omega))
        have cpl := Lib.hid (fun w => rplus_any (x * (y % 2 ^ k)) (x * 2 ^ k) w)
        go_wp2_with fail
        refine region_tail (by kernel_rfl) 8 [.pointer (some ⟨w.heap.size + 1 + 1 + 1, 1, none⟩), .agg (arr (x * (y % 2 ^ k)).testBit), .pointer (some ⟨w.heap.size, 1, none⟩), .agg (arr x.testBit), .int .i64 k, .agg (arr (x * 2 ^ k).testBit), .agg (arr (x * (y % 2 ^ k) + x * 2 ^ k).testBit), .pointer (some ⟨w.heap.size + 1 + 1 + 1, 1, none⟩)]
          (fun w' => Below wr.heap.size wr w') (by kernel_rfl) rfl (by kernel_rfl) (Below.refl _ _).drew ?_
        intro af haf
        simp only [puts, Act.put, List.getD_cons_zero, List.getD_cons_succ, List.setIfInBounds_toArray, List.set_cons_succ, List.set_cons_zero] at haf
        subst haf
        refine ⟨?_, ?_⟩
        · simp only [List.take_succ_cons, List.take_zero, EachTo]
          refine ⟨?_, ?_, ?_, ?_, ?_, ?_, ?_, ?_, trivial⟩
          all_goals
            intro w' hS
            with_reducible refine OpTo.plain ?_ ?_
            exact rfl
          · go_wp2_with fail
            all_goals first | rfl | exact ⟨rfl, hS⟩
          · refine wp_load_mid 108 (.tmp 21) rfl (w.heap.size + 1 + 1 + 1) 1 rfl (arr (x * (y % 2 ^ k)).testBit).toList _ (whole_range (b4.below hS (by omega))) Try.underlying108 rfl (info_arr_l _) ?_
            exact ⟨by rw [Array.toArray_toList]; first | done | rfl, hS⟩
          · go_wp2_with fail
            all_goals first | rfl | exact ⟨rfl, hS⟩
          · refine wp_load_mid 108 (.tmp 23) rfl w.heap.size 1 rfl (arr x.testBit).toList _ (whole_range (b1.below hS (by omega))) Try.underlying108 rfl (info_arr_l _) ?_
            exact ⟨by rw [Array.toArray_toList]; first | done | rfl, hS⟩
          · go_wp2_with fail
            all_goals first | rfl | exact ⟨rfl, hS⟩
          · go_wp2_with fail
            refine (csh.out w').mono ?_
            rintro e w'' ⟨rfl, hb2⟩
            exact ⟨rfl, andB hS hb2⟩
          · go_wp2_with fail
            refine (cpl.out w').mono ?_
            rintro e w'' ⟨rfl, hb2⟩
            exact ⟨rfl, andB hS hb2⟩
          · go_wp2_with fail
            all_goals first | rfl | exact ⟨rfl, hS⟩
        · simp only [List.getD_cons_succ, List.getD_cons_zero]
          intro w' hS
          with_reducible refine OpTo.plain ?_ ?_
          exact rfl
          have q4 := b4.below hS (by omega)
          refine wp_store_mid 108 (.tmp 28) (.tmp 27) rfl (w.heap.size + 1 + 1 + 1) 1 (arr (x * (y % 2 ^ k) + x * 2 ^ k).testBit) rfl rfl (by rw [arr_size]; exact whole_there q4) (info_arr _) (arr_one _) ⟨rfl, ?_⟩
          have q4' := Lib.hid (Blk.setCells (arr (x * (y % 2 ^ k) + x * 2 ^ k).testBit).toList 1 q4)
          have q1 := Blk.setCellsOther (show w.heap.size ≠ w.heap.size + 1 + 1 + 1 by omega) (arr (x * (y % 2 ^ k) + x * 2 ^ k).testBit).toList 1 (b1.below hS (by omega))
          have q2 := Blk.setCellsOther (show w.heap.size + 1 ≠ w.heap.size + 1 + 1 + 1 by omega) (arr (x * (y % 2 ^ k) + x * 2 ^ k).testBit).toList 1 (b2.below hS (by omega))
          have q3 := Blk.setCellsOther (show w.heap.size + 1 + 1 ≠ w.heap.size + 1 + 1 + 1 by omega) (arr (x * (y % 2 ^ k) + x * 2 ^ k).testBit).toList 1 (b3.below hS (by omega))
          have qb := below_setCells (show w.heap.size ≤ w.heap.size + 1 + 1 + 1 by omega) (arr (x * (y % 2 ^ k) + x * 2 ^ k).testBit).toList 1 (hb.trans (hS.mono hb.size))
          rw [whole_setList] at q4'
          generalize w'.setCells (w.heap.size + 1 + 1 + 1) 1 (arr (x * (y % 2 ^ k) + x * 2 ^ k).testBit).toList = W2 at *
          go_wp2_with fail
          go_roundw
          case rel => exact ⟨k + 1, by omega, by go_num, q1, q2, q3, by rw [hst.out]; exact q4'.out, qb⟩
          case measure => simp [intOf] <;> omega
    · obtain rfl : k = 64 := by omega
      rw [show y % 2 ^ 64 = y from Nat.mod_eq_of_lt HY.out] at b4
      have hg2 := b3.lt
      go_wp2_with (first
        | ((with_reducible refine wpList_load_row ?_ 110 (.tmp 5) ?_ (w.heap.size + 1 + 1 + 1) ?_ 110 (whole (!(na == nb)) (x * y).testBit) (0, 0) _ b4.out Try.underlying110 ?_ (info_whole _ _) ?_); exact rfl; exact rfl; exact rfl; exact rfl)
        | ((with_reducible refine wpList_store_row ?_ 110 (.tmp 4) (.tmp 29) ?_ (w.heap.size + 1 + 1) (whole (!(na == nb)) (x * y).testBit) ?_ ?_ 110 _ b3.out (info_whole _ _) (by simp only [whole_size]) (whole_one _ _) ?_); exact rfl; exact rfl; exact rfl; exact rfl))
      refine bodyPost_ret (v := wholeV (!(na == nb)) (x * y)) (results_cell_row rfl _ _ (w.heap.size + 1 + 1) 110 (whole (!(na == nb)) (x * y).testBit) (0, 0) _ rfl b3.row Try.underlying110 rfl (info_whole _ _)) rfl ⟨rfl, below_setRow hb (by omega) _⟩

end Go.Proofs.Ytdbdeodcldogmaa

/-
  The document's answers for layer 1, continued: a size by another one.
-/
namespace Go.Proofs.Ytdbdeodcldogmaa
open Go.RowKit
set_option linter.unusedSimpArgs false
set_option linter.unusedVariables false

/-- One digit of a quotient, from above. -/
theorem div_step (x y k : Nat) (hy : 0 < y) :
    x / 2 ^ k / y = 2 * (x / 2 ^ (k + 1) / y) + (if y ≤ 2 * (x / 2 ^ (k + 1) % y) + (if x.testBit k then 1 else 0) then 1 else 0) ∧
    x / 2 ^ k % y = 2 * (x / 2 ^ (k + 1) % y) + (if x.testBit k then 1 else 0) - (if y ≤ 2 * (x / 2 ^ (k + 1) % y) + (if x.testBit k then 1 else 0) then y else 0) := by
  have hh := half_bit x k
  rw [hh]
  generalize x / 2 ^ (k + 1) = n at *
  have hb : (if x.testBit k then 1 else 0 : Nat) ≤ 1 := by split <;> omega
  generalize (if x.testBit k then 1 else 0 : Nat) = b at *
  have hdm := Nat.div_add_mod n y
  have hm := Nat.mod_lt n hy
  have e : 2 * n + b = y * (2 * (n / y)) + (2 * (n % y) + b) := by
    rw [Nat.mul_left_comm]; omega
  have e1 : (2 * n + b) / y = 2 * (n / y) + (2 * (n % y) + b) / y := by rw [e, Nat.mul_add_div hy]
  have e2 : (2 * n + b) % y = (2 * (n % y) + b) % y := by rw [e, Nat.mul_add_mod]
  rw [e1, e2]
  generalize n % y = r at *
  by_cases h : y ≤ 2 * r + b
  · rw [if_pos h, if_pos h]
    have e3 : (2 * r + b) / y = 1 := Nat.div_eq_of_lt_le (by omega) (by omega)
    have e4 : (2 * r + b) % y = 2 * r + b - y := by rw [Nat.mod_eq_sub_mod h, Nat.mod_eq_of_lt (by omega)]
    rw [e3, e4]; omega
  · have e3 : (2 * r + b) / y = 0 := Nat.div_eq_of_lt (by omega)
    have e4 : (2 * r + b) % y = 2 * r + b := Nat.mod_eq_of_lt (by omega)
    rw [if_neg h, if_neg h, e3, e4]; omega
theorem quot_bit (x y k : Nat) (hy : 0 < y) : (x / y).testBit k = decide (y ≤ 2 * (x / 2 ^ (k + 1) % y) + (if x.testBit k then 1 else 0)) := by
  have h := (div_step x y k hy).1
  rw [Nat.testBit_eq_decide_div_mod_eq, Nat.div_div_eq_div_mul, Nat.mul_comm y, ← Nat.div_div_eq_div_mul, h, decide_eq_decide]
  generalize x / 2 ^ (k + 1) / y = m
  by_cases hc : y ≤ 2 * (x / 2 ^ (k + 1) % y) + (if x.testBit k then 1 else 0)
  · rw [if_pos hc]; simp only [hc, iff_true]; omega
  · rw [if_neg hc]; simp only [hc, iff_false]; omega

theorem double_set (r : Nat) (b : Bool) : (arr (r * 2 ^ 1).testBit).setIfInBounds 0 (.bool b) = arr (2 * r + (if b then 1 else 0)).testBit := by
  rw [arr_set]
  refine arr_congr fun j hj => ?_
  cases j with
  | zero => cases b <;> simp [Nat.testBit_zero] <;> omega
  | succ j =>
    rw [if_neg (by omega), Nat.testBit_succ, Nat.testBit_succ]
    congr 1
    cases b <;> simp <;> omega
theorem above_set (q k : Nat) (h : q.testBit k = true) : (arr fun j => decide (k + 1 ≤ j) && q.testBit j).setIfInBounds k (.bool true) = arr fun j => decide (k ≤ j) && q.testBit j := by
  rw [arr_set]
  refine arr_congr fun j hj => ?_
  by_cases h1 : j = k
  · subst h1; simp [h]
  · have : (k + 1 ≤ j) = (k ≤ j) := by simp; omega
    simp [h1, this]
theorem above_skip (q k : Nat) (h : q.testBit k = false) : (arr fun j => decide (k + 1 ≤ j) && q.testBit j) = arr fun j => decide (k ≤ j) && q.testBit j := by
  refine arr_congr fun j hj => ?_
  by_cases h1 : j = k
  · subst h1; simp [h]
  · have : (k + 1 ≤ j) = (k ≤ j) := by simp; omega
    simp [this]


end Go.Proofs.Ytdbdeodcldogmaa

/-
  The document's answers for layer 1, the end: what Add, Sub, Mul, Sum, Down and Up answer by it.
-/
namespace Go.Proofs.Ytdbdeodcldogmaa
open Go.RowKit
set_option linter.unusedSimpArgs false
set_option linter.unusedVariables false

theorem whole_extract (neg : Bool) (f : Nat → Bool) : (whole neg f).extract 1 193 = arr f := by
  apply Array.ext_getElem?
  intro j
  rw [Array.getElem?_extract, whole_size]
  by_cases hj : j < 192
  · rw [if_pos (by omega), whole_get _ _ j hj, arr_get _ j hj]
  · rw [if_neg (by omega), Array.getElem?_eq_none (by rw [arr_size]; omega)]

/-- A guarded operation that is wanted. -/
theorem wpList_wanted {P : Program} {ops : Array Oper} {rest : List Oper} {o : Oper} {a : Act} {w : World} {Q : Exit → Act → World → Prop} (hw : Region.wanted o (yielded ops a.tmps) = true)
    (h : ∀ K : Act → World → Prop, (∀ a w, wpList P ops Q rest a w → K a w) → o.wp P a w K Q) : wpList P ops Q (o :: rest) a w :=
  wpList_step fun K hK => by rw [if_pos hw]; exact h K hK

theorem run_field_bits (neg : Bool) (f : Nat → Bool) (w : World) : (Instr.field 110 (.agg (whole neg f)) 1).run Try.prog w = .ok (.agg (arr f)) w := by
  have h1 : (isAgg 108).run Try.prog w = .ok true w := by kernel_rfl
  have h2 : (sizeOf 108).run Try.prog w = .ok 192 w := by kernel_rfl
  simp [Instr.field, run_underlying Try.underlying110, asAgg, part, h1, h2, whole_extract]
theorem run_eq_arr (f g : Nat → Bool) (w : World) :
    (Op.equalIn 10000 108 (.agg (arr f)) (.agg (arr g))).run Try.prog w = .ok ((List.range 192).all fun i => f i == g i) w := by
  refine run_equalIn_cells (P := Try.prog) 9999 108 4 192 Try.underlying108 (fun w => by kernel_rfl) (fun w => by kernel_rfl) (arr f) (arr g) (arr_size f) (arr_size g) _ ?_ w
  intro i x y w hx hy
  have hi : i < 192 := by
    rcases Nat.lt_or_ge i 192 with h | h
    · exact h
    · rw [Array.getElem?_eq_none (by rw [arr_size]; omega)] at hx; cases hx
  rw [arr_get f i hi] at hx
  rw [arr_get g i hi] at hy
  cases hx; cases hy
  exact run_equalIn_bool' w 9998 4 (f i) (g i) Try.underlying4

end Go.Proofs.Ytdbdeodcldogmaa
