/-
  The document's answers for layer 1, the end: what Add, Sub, Mul, Sum, Down and Up answer by it.
-/
import Derived.Test.YtdkmbbjdoonomaaRef01e
namespace Go.Proofs.Ytdkmbbjdoonomaa
open Go.RowKit
set_option linter.unusedSimpArgs false
set_option linter.unusedVariables false

theorem whole_extract (neg : Bool) (f : Nat → Bool) : (whole neg f).extract 1 193 = arr f := by
  apply Array.ext_getElem?
  intro j
  rw [Array.getElem?_extract, whole_size]
  by_cases hj : j < 192
  · rw [if_pos (by omega), whole_get _ _ j hj, arr_get _ j hj]
  · rw [if_neg (by omega), Array.getElem?_eq_none (by rw [arr_size]; omega)]

/-- A guarded operation that is wanted. -/
theorem wpList_wanted {P : Program} {ops : Array Oper} {rest : List Oper} {o : Oper} {a : Act} {w : World} {Q : Exit → Act → World → Prop} (hw : Region.wanted o (yielded ops a.tmps) = true)
    (h : ∀ K : Act → World → Prop, (∀ a w, wpList P ops Q rest a w → K a w) → o.wp P a w K Q) : wpList P ops Q (o :: rest) a w :=
  wpList_step fun K hK => by rw [if_pos hw]; exact h K hK

theorem run_field_bits (neg : Bool) (f : Nat → Bool) (w : World) : (Instr.field 49 (.agg (whole neg f)) 1).run Try.prog w = .ok (.agg (arr f)) w := by
  have h1 : (isAgg 47).run Try.prog w = .ok true w := by kernel_rfl
  have h2 : (sizeOf 47).run Try.prog w = .ok 192 w := by kernel_rfl
  simp [Instr.field, run_underlying Try.underlying49, asAgg, part, h1, h2, whole_extract]
theorem run_eq_arr (f g : Nat → Bool) (w : World) :
    (Op.equalIn 10000 47 (.agg (arr f)) (.agg (arr g))).run Try.prog w = .ok ((List.range 192).all fun i => f i == g i) w := by
  refine run_equalIn_cells (P := Try.prog) 9999 47 4 192 Try.underlying47 (fun w => by kernel_rfl) (fun w => by kernel_rfl) (arr f) (arr g) (arr_size f) (arr_size g) _ ?_ w
  intro i x y w hx hy
  have hi : i < 192 := by
    rcases Nat.lt_or_ge i 192 with h | h
    · exact h
    · rw [Array.getElem?_eq_none (by rw [arr_size]; omega)] at hx; cases hx
  rw [arr_get f i hi] at hx
  rw [arr_get g i hi] at hy
  cases hx; cases hy
  exact run_equalIn_bool' w 9998 4 (f i) (g i) Try.underlying4
theorem build_whole_bits (f : Nat → Bool) (w : World) : (Instr.build 49 #[(1, .agg (arr f))]).run Try.prog w = .ok (.agg (whole false f)) w := by
  have h : (Instr.build 49 #[(1, .agg (arr f))]).run Try.prog = fun w => .ok (.agg (whole false f)) w := by
    kernel_rfl
  rw [h]
theorem all_zero (x : Nat) (hx : x < 2 ^ 192) : ((List.range 192).all fun i => x.testBit i == false) = decide (x = 0) := by
  rw [Bool.eq_iff_iff]
  simp only [List.all_eq_true, List.mem_range, beq_iff_eq, decide_eq_true_eq]
  constructor
  · intro h
    refine Nat.eq_of_testBit_eq fun i => ?_
    rw [Nat.zero_testBit]
    by_cases hi : i < 192
    · exact h i hi
    · exact Nat.testBit_lt_two_pow (Nat.lt_of_lt_of_le hx (Nat.pow_le_pow_right (by omega) (by omega)))
  · rintro rfl i _
    exact Nat.zero_testBit i

set_option maxHeartbeats 4000000 in
set_option maxRecDepth 100000 in
theorem by_bad (a num den : Int) (up : Bool) (w : World) (hbad : a < 0 ∨ num < 0 ∨ den < 1) :
    Calls Try.prog 41 #[.int .i64 a, .int .i64 num, .int .i64 den, .bool up] w fun e w' => e = .returned (.tuple #[.int .i64 0, .int .i64 1]) ∧ Below w.heap.size w w' := by
  have hs : (a < 0) ∨ (¬ a < 0 ∧ num < 0) ∨ (¬ a < 0 ∧ ¬ num < 0 ∧ den < 1) := by omega
  clear hbad
  rcases hs with h1 | ⟨h1, h2⟩ | ⟨h1, h2, h3⟩
  all_goals
    go_enter Try.func41, Try.ntmps41
    go_wp2_with fail
    go_ret2
    exact ⟨rfl, Below.refl _ _⟩

set_option maxHeartbeats 8000000 in
set_option maxRecDepth 100000 in
theorem by_good (a num den : Int) (up : Bool) (w : World) (ha : In64 a) (hn : In64 num) (hd : In64 den) (h1 : 0 ≤ a) (h2 : 0 ≤ num) (h3 : 1 ≤ den) :
    Calls Try.prog 41 #[.int .i64 a, .int .i64 num, .int .i64 den, .bool up] w fun e w' => e = .returned (ans (if up then upN (a * num) den else a * num / den)) ∧ Below w.heap.size w w' := by
  have hz := zero_arr
  have hzw := zero_whole
  have hfl := run_field_bits
  have cA := Lib.hid (fun w => of_any a w ha)
  have cN := Lib.hid (fun w => of_any num w hn)
  have cD := Lib.hid (fun w => of_any den w hd)
  obtain ⟨A, rfl⟩ := Int.eq_ofNat_of_zero_le h1
  obtain ⟨M, rfl⟩ := Int.eq_ofNat_of_zero_le h2
  obtain ⟨E, rfl⟩ := Int.eq_ofNat_of_zero_le (show 0 ≤ den by omega)
  rw [decide_eq_false (by omega), Int.natAbs_natCast] at cA cN cD
  unfold In64 at ha hn hd
  have cT := Lib.hid (fun w => times_any false false A M w (by omega))
  have hAM : A * M < 2 ^ 192 := by
    have h : A * M ≤ 9223372036854775807 * 9223372036854775807 := Nat.mul_le_mul (by omega) (by omega)
    exact Nat.lt_of_le_of_lt h (by decide)
  have cV := Lib.hid (fun w => divided_any (A * M) E w hAM (by omega) (Nat.lt_of_le_of_lt (show E ≤ 9223372036854775807 by omega) (by decide)))
  rw [bitsV_eq, bitsV_eq, bitsV_eq, bitsV_eq] at cV
  have HAM := Lib.hid hAM; have HM2 := Lib.hid (show A * M ≤ 9223372036854775807 * 9223372036854775807 from Nat.mul_le_mul (by omega) (by omega))
  clear hAM ha hn hd
  go_enter Try.func41, Try.ntmps41
  go_wp2_with fail
  refine (cA.out _).mono ?_
  rintro e w1 ⟨rfl, b1⟩
  go_wp2_with fail
  refine (cN.out _).mono ?_
  rintro e w2 ⟨rfl, b2⟩
  go_wp2_with fail
  refine (cT.out _).mono ?_
  unfold wholeV
  rintro e w3 ⟨rfl, b3⟩
  go_wp2_with fail
  refine (cD.out _).mono ?_
  unfold wholeV
  rintro e w4 ⟨rfl, b4⟩
  go_wp2_with fail
  refine (cV.out _).mono ?_
  rintro e w5 ⟨rfl, b5⟩
  have hb : Below w.heap.size w w5 := andB (andB (andB (andB b1 b2) b3) b4) b5
  clear b1 b2 b3 b4 b5 cA cN cD cT cV
  have k1 : Blk ((w5.alloc (.cells (arr fun _ => false) 47)).alloc (.cells (arr fun _ => false) 47)) w5.heap.size (arr fun _ => false) 47 := (Blk.new _ _ _).alloc _
  have k2 : Blk ((w5.alloc (.cells (arr fun _ => false) 47)).alloc (.cells (arr fun _ => false) 47)) (w5.heap.size + 1) (arr fun _ => false) 47 := Blk.newAt _ _ _ (by simp)
  have hb6 : Below w.heap.size w ((w5.alloc (.cells (arr fun _ => false) 47)).alloc (.cells (arr fun _ => false) 47)) := (hb.alloc hb.size _).alloc (by have := hb.size; simp; omega) _
  have k2' := k2.rowOther (k := w5.heap.size) (cs' := arr (A * M / E).testBit) (by omega)
  go_upto_region 4 with (first | ((with_reducible refine wpList_store_row ?_ 47 (.tmp 10) (.tmp 33) ?_ w5.heap.size (arr (A * M / E).testBit) ?_ ?_ 47 _ k1.out (info_arr _) (by simp only [arr_size]) (arr_one _) ?_); exact rfl; exact rfl; exact rfl; exact rfl) | ((with_reducible refine wpList_store_row ?_ 47 (.tmp 11) (.tmp 34) ?_ (w5.heap.size + 1) (arr (A * M % E).testBit) ?_ ?_ 47 _ k2'.out (info_arr _) (by simp only [arr_size]) (arr_one _) ?_); exact rfl; exact rfl; exact rfl; exact rfl))
  have q1 := (k1.row (cs := arr (A * M / E).testBit)).rowOther (k := w5.heap.size + 1) (cs' := arr (A * M % E).testBit) (by omega)
  have q2 := k2'.row (cs := arr (A * M % E).testBit)
  have hb7 := below_setRow (below_setRow hb6 (show w.heap.size ≤ w5.heap.size from hb.size) (arr (A * M / E).testBit)) (show w.heap.size ≤ w5.heap.size + 1 by have := hb.size; omega) (arr (A * M % E).testBit)
  have hle := hb.size
  generalize hg : w5.heap.size = g at *
  generalize ((((w5.alloc (.cells (arr fun _ => false) 47)).alloc (.cells (arr fun _ => false) 47)).setRow g (arr (A * M / E).testBit)).setRow (g + 1) (arr (A * M % E).testBit)) = W at *
  clear k1 k2 k2' hb6 hb hg
  have hql : A * M / E < 2 ^ 192 := Nat.lt_of_le_of_lt (Nat.div_le_self _ _) HAM.out
  have hrl : A * M % E < 2 ^ 192 := Nat.lt_of_le_of_lt (Nat.mod_le _ _) HAM.out
  have hqe : ∀ w, (Op.equalIn 10000 47 (.agg (arr (A * M % E).testBit)) (.agg (arr fun _ => false))).run Try.prog w = .ok (decide (A * M % E = 0)) w := fun w => by
    rw [run_eq_arr, all_zero _ hrl]
  have e1 : ((A : Int) * (M : Int)) / (E : Int) = ((A * M / E : Nat) : Int) := by simp
  have e2 : ((A : Int) * (M : Int)) % (E : Int) = ((A * M % E : Nat) : Int) := by simp
  have hbw := Lib.hid build_whole_bits
  have hqb : A * M / E ≤ 9223372036854775807 * 9223372036854775807 := Nat.le_trans (Nat.div_le_self _ _) HM2.out
  have QL := Lib.hid hql; have QB := Lib.hid hqb
  clear hrl hql hqb
  generalize hQ : A * M / E = q at *
  generalize hR : A * M % E = r at *
  have E1 := Lib.hid e1; have E2 := Lib.hid e2
  clear e1 e2 hQ hR
  cases up
  · have cN := Lib.hid (fun w => num_any false q w QL.out)
    go_upto_region 6 with fail
    go_wp2_with (first | ((with_reducible refine wpList_load_row ?_ 47 (.tmp 10) ?_ g ?_ 47 (arr q.testBit) (0, 0) _ q1.out Try.underlying47 ?_ (info_arr _) ?_); exact rfl; exact rfl; exact rfl; exact rfl) | ((with_reducible refine wpList_build_of ?_ 49 #[(1, .tmp 45)] ?_ #[(1, .agg (arr q.testBit))] ?_ _ (hbw.out _ _) ?_); exact rfl; exact rfl; (first | rfl | (simp [Act.eval]; done) | (simp [Act.eval]; rfl))))
    refine (cN.out _).mono ?_
    unfold ans
    rintro e w6 ⟨rfl, b6⟩
    go_wp2_with fail
    go_ret2
    exact ⟨by simp only [Bool.false_eq_true, if_false]; rw [E1.out]; rfl, hb7.trans (b6.mono hb7.size)⟩
  · by_cases hr0 : r = 0
    · have cN := Lib.hid (fun w => num_any false q w QL.out)
      have hd : decide (r = 0) = true := by simp [hr0]
      have HR := Lib.hid hr0
      rw [hd] at hqe
      clear hd hr0
      go_upto_region 6 with ((with_reducible refine wpList_wanted ?_ (fun K hK => wp_load_row 47 (.tmp 11) ?_ (g + 1) ?_ 47 (arr r.testBit) (0, 0) _ q2.out Try.underlying47 ?_ (info_arr _) (hK _ _ ?_))); exact rfl; exact rfl; exact rfl; exact rfl)
      go_wp2_with (first | ((with_reducible refine wpList_load_row ?_ 47 (.tmp 10) ?_ g ?_ 47 (arr q.testBit) (0, 0) _ q1.out Try.underlying47 ?_ (info_arr _) ?_); exact rfl; exact rfl; exact rfl; exact rfl) | ((with_reducible refine wpList_build_of ?_ 49 #[(1, .tmp 45)] ?_ #[(1, .agg (arr q.testBit))] ?_ _ (hbw.out _ _) ?_); exact rfl; exact rfl; (first | rfl | (simp [Act.eval]; done) | (simp [Act.eval]; rfl))))
      refine (cN.out _).mono ?_
      unfold ans
      rintro e w6 ⟨rfl, b6⟩
      go_wp2_with fail
      go_ret2
      exact ⟨by simp only [if_true]; rw [upN, E2.out, HR.out, E1.out]; simp; rfl, hb7.trans (b6.mono hb7.size)⟩
    · have cN := Lib.hid (fun w => num_any false (q + 1) w (Nat.lt_of_le_of_lt (show q + 1 ≤ 9223372036854775807 * 9223372036854775807 + 1 by have := QB.out; omega) (by decide)))
      have cO := Lib.hid (fun w => of_any 1 w (by decide))
      rw [show wholeV (decide ((1 : Int) < 0)) (Int.natAbs 1) = .agg (whole false (Nat.testBit 1)) from rfl] at cO
      have cP := Lib.hid (fun w => rplus_any q 1 w)
      rw [bitsV_eq, bitsV_eq, bitsV_eq] at cP
      have hd : decide (r = 0) = false := by simp [hr0]
      have HR := Lib.hid hr0
      rw [hd] at hqe
      clear hd hr0
      go_upto_region 5 with ((with_reducible refine wpList_wanted ?_ (fun K hK => wp_load_row 47 (.tmp 11) ?_ (g + 1) ?_ 47 (arr r.testBit) (0, 0) _ q2.out Try.underlying47 ?_ (info_arr _) (hK _ _ ?_))); exact rfl; exact rfl; exact rfl; exact rfl)
      refine region_tail (by kernel_rfl) 4 [.agg (arr q.testBit), .agg (whole false (Nat.testBit 1)), .agg (arr (Nat.testBit 1)), .agg (arr (q + 1).testBit)]
        (fun w' => Below W.heap.size W w') (by kernel_rfl) rfl (by kernel_rfl) (Below.refl _ _).drew ?_
      intro af haf
      simp only [puts, Act.put, List.getD_cons_zero, List.getD_cons_succ, List.setIfInBounds_toArray, List.set_cons_succ, List.set_cons_zero] at haf
      subst haf
      have l1 := q1.lt
      refine ⟨?_, ?_⟩
      · simp only [List.take_succ_cons, List.take_zero, EachTo]
        refine ⟨?_, ?_, ?_, ?_, trivial⟩
        all_goals
          intro w' hS
          with_reducible refine OpTo.plain ?_ ?_
          exact rfl
        · exact wp_load_row 47 (.tmp 10) rfl g rfl 47 (arr q.testBit) (0, 0) _ (q1.below hS l1).out Try.underlying47 rfl (info_arr _) ⟨rfl, hS⟩
        · go_wp2_with fail
          refine (cO.out w').mono ?_
          rintro e w'' ⟨rfl, hb2⟩
          exact ⟨rfl, andB hS hb2⟩
        · go_wp2_with fail
          all_goals first | rfl | exact ⟨rfl, hS⟩
        · go_wp2_with fail
          refine (cP.out w').mono ?_
          rintro e w'' ⟨rfl, hb2⟩
          exact ⟨rfl, andB hS hb2⟩
      · simp only [List.getD_cons_succ, List.getD_cons_zero]
        intro w' hS
        with_reducible refine OpTo.plain ?_ ?_
        exact rfl
        refine wp_store_row 47 (.tmp 10) (.tmp 44) rfl g (arr (q + 1).testBit) rfl rfl 47 _ (q1.below hS l1).out (info_arr _) (by simp only [arr_size]) (arr_one _) ⟨rfl, ?_⟩
        have p1 := (q1.below hS l1).row (cs := arr (q + 1).testBit)
        have hb8 := below_setRow (hb7.trans (hS.mono hb7.size)) hle (arr (q + 1).testBit)
        generalize w'.setRow g (arr (q + 1).testBit) = W8 at *
        go_upto_region 6 with fail
        go_wp2_with (first | ((with_reducible refine wpList_load_row ?_ 47 (.tmp 10) ?_ g ?_ 47 (arr (q + 1).testBit) (0, 0) _ p1.out Try.underlying47 ?_ (info_arr _) ?_); exact rfl; exact rfl; exact rfl; exact rfl) | ((with_reducible refine wpList_build_of ?_ 49 #[(1, .tmp 45)] ?_ #[(1, .agg (arr (q + 1).testBit))] ?_ _ (hbw.out _ _) ?_); exact rfl; exact rfl; (first | rfl | (simp [Act.eval]; done) | (simp [Act.eval]; rfl))))
        refine (cN.out _).mono ?_
        unfold ans
        rintro e w6 ⟨rfl, b6⟩
        go_wp2_with fail
        go_ret2
        exact ⟨by simp only [if_true]; rw [upN, E2.out, E1.out, if_neg (by have := HR.out; omega)]; simp; rfl, hb8.trans (b6.mono hb8.size)⟩

theorem rby_any (a num den : Int) (up : Bool) (w : World) (ha : In64 a) (hn : In64 num) (hd : In64 den) :
    Calls Try.prog 41 #[.int .i64 a, .int .i64 num, .int .i64 den, .bool up] w fun e w' => e = .returned (if up then upV a num den else downV a num den) ∧ Below w.heap.size w w' := by
  by_cases hbad : a < 0 ∨ num < 0 ∨ den < 1
  · have e : (if up then upV a num den else downV a num den) = .tuple #[.int .i64 0, .int .i64 1] := by cases up <;> simp [upV, downV, hbad]
    rw [e]; exact by_bad a num den up w hbad
  · have e : (if up then upV a num den else downV a num den) = ans (if up then upN (a * num) den else a * num / den) := by cases up <;> simp [upV, downV, hbad]
    rw [e]; exact by_good a num den up w ha hn hd (by omega) (by omega) (by omega)

set_option maxHeartbeats 1000000 in
theorem rdown_any (a num den : Int) (w : World) (ha : In64 a) (hn : In64 num) (hd : In64 den) :
    Calls Try.prog 34 #[.int .i64 a, .int .i64 num, .int .i64 den] w fun e w' => e = .returned (downV a num den) ∧ Below w.heap.size w w' := by
  have hc := Lib.hid (fun w => rby_any a num den false w ha hn hd)
  have hv : ∃ x y, downV a num den = .tuple #[.int .i64 x, .int .i64 y] := by unfold downV ans; split <;> exact ⟨_, _, rfl⟩
  obtain ⟨x, y, hv⟩ := hv
  simp only [Bool.false_eq_true, if_false, hv] at hc
  have HV := Lib.hid hv
  clear hv
  go_enter Try.func34, Try.ntmps34
  go_wp2_with fail
  refine (hc.out _).mono ?_
  rintro e w' ⟨rfl, hb⟩
  go_wp2_with fail
  go_ret2
  exact ⟨by rw [HV.out]; rfl, hb⟩
set_option maxHeartbeats 1000000 in
theorem rup_any (a num den : Int) (w : World) (ha : In64 a) (hn : In64 num) (hd : In64 den) :
    Calls Try.prog 36 #[.int .i64 a, .int .i64 num, .int .i64 den] w fun e w' => e = .returned (upV a num den) ∧ Below w.heap.size w w' := by
  have hc := Lib.hid (fun w => rby_any a num den true w ha hn hd)
  have hv : ∃ x y, upV a num den = .tuple #[.int .i64 x, .int .i64 y] := by unfold upV ans; split <;> exact ⟨_, _, rfl⟩
  obtain ⟨x, y, hv⟩ := hv
  simp only [if_true, hv] at hc
  have HV := Lib.hid hv
  clear hv
  go_enter Try.func36, Try.ntmps36
  go_wp2_with fail
  refine (hc.out _).mono ?_
  rintro e w' ⟨rfl, hb⟩
  go_wp2_with fail
  go_ret2
  exact ⟨by rw [HV.out]; rfl, hb⟩

end Go.Proofs.Ytdkmbbjdoonomaa
