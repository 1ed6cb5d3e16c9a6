/-
  The document's answers for layer 1, continued: products, quotients, and the answers themselves.
-/
import Derived.Test.YtdbdeodcldogmaaRef01c
namespace Go.Proofs.Ytdbdeodcldogmaa
open Go.RowKit
set_option linter.unusedSimpArgs false
set_option linter.unusedVariables false

theorem times_step (x y k : Nat) : x * (y % 2 ^ (k + 1)) = if y.testBit k then x * (y % 2 ^ k) + x * 2 ^ k else x * (y % 2 ^ k) := by
  rw [bit_val, Nat.mul_add]
  split <;> simp
/-- Times, at the head of its loop. -/
def TimesAt (na nb : Bool) (x y : Nat) (w : World) (i : Value) (wr : World) : Prop :=
  ∃ k : Nat, k ≤ 64 ∧ i = .int .i64 k ∧ Blk wr w.heap.size (whole na x.testBit) 110 ∧ Blk wr (w.heap.size + 1) (whole nb y.testBit) 110 ∧
    Blk wr (w.heap.size + 1 + 1) (whole false fun _ => false) 110 ∧ Blk wr (w.heap.size + 1 + 1 + 1) (whole (!(na == nb)) (x * (y % 2 ^ k)).testBit) 110 ∧ Below w.heap.size w wr
set_option maxHeartbeats 4000000 in
set_option maxRecDepth 100000 in
theorem times_any (na nb : Bool) (x y : Nat) (w : World) (hy : y < 18446744073709551616) :
    Calls Try.prog 67 #[wholeV na x, wholeV nb y] w fun e w' => e = .returned (wholeV (!(na == nb)) (x * y)) ∧ Below w.heap.size w w' := by
  have hz := zero_whole
  have hne := whole_ne; have hs0 := whole_set0
  have HY := Lib.hid hy
  clear hy
  unfold wholeV
  have k1 : Blk ((((w.alloc (.cells (whole na x.testBit) 110)).alloc (.cells (whole nb y.testBit) 110)).alloc (.cells (whole false fun _ => false) 110)).alloc (.cells (whole false fun _ => false) 110)) (w.heap.size + 1 + 1 + 1) (whole false fun _ => false) 110 := Blk.newAt _ _ _ (by simp)
  have c1 : (((w.alloc (.cells (whole na x.testBit) 110)).alloc (.cells (whole nb y.testBit) 110)).alloc (.cells (whole false fun _ => false) 110)).cell? ⟨w.heap.size, 0, none⟩ = some (.bool na) := by
    have := (((Blk.new w (whole na x.testBit) 110).alloc (.cells (whole nb y.testBit) 110)).alloc (.cells (whole false fun _ => false) 110)).cell 0
    rw [whole_get0] at this; exact this
  have c2 : (((w.alloc (.cells (whole na x.testBit) 110)).alloc (.cells (whole nb y.testBit) 110)).alloc (.cells (whole false fun _ => false) 110)).cell? ⟨w.heap.size + 1, 0, none⟩ = some (.bool nb) := by
    have := ((Blk.newAt (w.alloc (.cells (whole na x.testBit) 110)) (whole nb y.testBit) 110 (g := w.heap.size + 1) (by simp)).alloc (.cells (whole false fun _ => false) 110)).cell 0
    rw [whole_get0] at this; exact this
  go_enter Try.func67, Try.ntmps67
  go_wp2_with ((with_reducible refine wpList_store_row ?_ 110 (.tmp 5) (.tmp 12) ?_ (w.heap.size + 1 + 1 + 1) (whole (!(na == nb)) fun _ => false) ?_ ?_ 110 _ k1.out (info_whole _ _) (by simp only [whole_size]) (whole_one _ _) ?_); exact rfl; exact rfl; exact rfl; exact rfl)
  go_loopw [6] (TimesAt na nb x y w) (fun i _ => 64 - (intOf i).toNat)
  case atStart =>
    refine ⟨0, by omega, rfl, ?_, ?_, ?_, ?_, below_setRow (((((Below.refl _ _).alloc (Nat.le_refl _) _).alloc (by simp) _).alloc (by simp; omega) _).alloc (by simp; omega) _) (by omega) _⟩
    · exact ((((Blk.new _ _ _).alloc _).alloc _).alloc _).rowOther (by omega)
    · exact (((Blk.newAt _ _ _ (by simp)).alloc _).alloc _).rowOther (by omega)
    · exact ((Blk.newAt _ _ _ (by simp)).alloc _).rowOther (by omega)
    · rw [show x * (y % 2 ^ 0) = 0 by simp [Nat.mod_one], show (Nat.testBit 0) = fun _ => false from funext Nat.zero_testBit]
      exact k1.row
  case round =>
    obtain ⟨k, hk, rfl, b1, b2, b3, b4, hb⟩ := hrel
    by_cases hkl : (k : Int) < 64
    · have hcell : wr.cell? ⟨w.heap.size + 1, 1 + k, none⟩ = some (.bool (y.testBit k)) := by rw [b2.cell (1 + k)]; exact whole_get _ _ k (by omega)
      have hst := Lib.hid (times_step x y k)
      have hs4 := b4.lt
      cases hbit : y.testBit k
      · rw [hbit] at hcell hst
        clear hbit
        go_wp2
        go_roundw
        case rel => exact ⟨k + 1, by omega, by go_num, b1, b2, b3, by rw [hst.out]; simpa using b4, hb⟩
        case measure => simp [intOf] <;> omega
      · rw [hbit] at hcell hst
        clear hbit
        have csh := Lib.hid (fun w => rshift_any x k w (by omega))
        have cpl := Lib.hid (fun w => rplus_any (x * (y % 2 ^ k)) (x * 2 ^ k) w)
        go_wp2_with fail
        refine region_tail (by kernel_rfl) 8 [.pointer (some ⟨w.heap.size + 1 + 1 + 1, 1, none⟩), .agg (arr (x * (y % 2 ^ k)).testBit), .pointer (some ⟨w.heap.size, 1, none⟩), .agg (arr x.testBit), .int .i64 k, .agg (arr (x * 2 ^ k).testBit), .agg (arr (x * (y % 2 ^ k) + x * 2 ^ k).testBit), .pointer (some ⟨w.heap.size + 1 + 1 + 1, 1, none⟩)]
          (fun w' => Below wr.heap.size wr w') (by kernel_rfl) rfl (by kernel_rfl) (Below.refl _ _).drew ?_
        intro af haf
        simp only [puts, Act.put, List.getD_cons_zero, List.getD_cons_succ, List.setIfInBounds_toArray, List.set_cons_succ, List.set_cons_zero] at haf
        subst haf
        refine ⟨?_, ?_⟩
        · simp only [List.take_succ_cons, List.take_zero, EachTo]
          refine ⟨?_, ?_, ?_, ?_, ?_, ?_, ?_, ?_, trivial⟩
          all_goals
            intro w' hS
            with_reducible refine OpTo.plain ?_ ?_
            exact rfl
          · go_wp2_with fail
            all_goals first | rfl | exact ⟨rfl, hS⟩
          · refine wp_load_mid 108 (.tmp 21) rfl (w.heap.size + 1 + 1 + 1) 1 rfl (arr (x * (y % 2 ^ k)).testBit).toList _ (whole_range (b4.below hS (by omega))) Try.underlying108 rfl (info_arr_l _) ?_
            exact ⟨by rw [Array.toArray_toList]; first | done | rfl, hS⟩
          · go_wp2_with fail
            all_goals first | rfl | exact ⟨rfl, hS⟩
          · refine wp_load_mid 108 (.tmp 23) rfl w.heap.size 1 rfl (arr x.testBit).toList _ (whole_range (b1.below hS (by omega))) Try.underlying108 rfl (info_arr_l _) ?_
            exact ⟨by rw [Array.toArray_toList]; first | done | rfl, hS⟩
          · go_wp2_with fail
            all_goals first | rfl | exact ⟨rfl, hS⟩
          · go_wp2_with fail
            refine (csh.out w').mono ?_
            rintro e w'' ⟨rfl, hb2⟩
            exact ⟨rfl, andB hS hb2⟩
          · go_wp2_with fail
            refine (cpl.out w').mono ?_
            rintro e w'' ⟨rfl, hb2⟩
            exact ⟨rfl, andB hS hb2⟩
          · go_wp2_with fail
            all_goals first | rfl | exact ⟨rfl, hS⟩
        · simp only [List.getD_cons_succ, List.getD_cons_zero]
          intro w' hS
          with_reducible refine OpTo.plain ?_ ?_
          exact rfl
          have q4 := b4.below hS (by omega)
          refine wp_store_mid 108 (.tmp 28) (.tmp 27) rfl (w.heap.size + 1 + 1 + 1) 1 (arr (x * (y % 2 ^ k) + x * 2 ^ k).testBit) rfl rfl (by rw [arr_size]; exact whole_there q4) (info_arr _) (arr_one _) ⟨rfl, ?_⟩
          have q4' := Lib.hid (Blk.setCells (arr (x * (y % 2 ^ k) + x * 2 ^ k).testBit).toList 1 q4)
          have q1 := Blk.setCellsOther (show w.heap.size ≠ w.heap.size + 1 + 1 + 1 by omega) (arr (x * (y % 2 ^ k) + x * 2 ^ k).testBit).toList 1 (b1.below hS (by omega))
          have q2 := Blk.setCellsOther (show w.heap.size + 1 ≠ w.heap.size + 1 + 1 + 1 by omega) (arr (x * (y % 2 ^ k) + x * 2 ^ k).testBit).toList 1 (b2.below hS (by omega))
          have q3 := Blk.setCellsOther (show w.heap.size + 1 + 1 ≠ w.heap.size + 1 + 1 + 1 by omega) (arr (x * (y % 2 ^ k) + x * 2 ^ k).testBit).toList 1 (b3.below hS (by omega))
          have qb := below_setCells (show w.heap.size ≤ w.heap.size + 1 + 1 + 1 by omega) (arr (x * (y % 2 ^ k) + x * 2 ^ k).testBit).toList 1 (hb.trans (hS.mono hb.size))
          rw [whole_setList] at q4'
          generalize w'.setCells (w.heap.size + 1 + 1 + 1) 1 (arr (x * (y % 2 ^ k) + x * 2 ^ k).testBit).toList = W2 at *
          go_wp2_with fail
          go_roundw
          case rel => exact ⟨k + 1, by omega, by go_num, q1, q2, q3, by rw [hst.out]; exact q4'.out, qb⟩
          case measure => simp [intOf] <;> omega
    · obtain rfl : k = 64 := by omega
      rw [show y % 2 ^ 64 = y from Nat.mod_eq_of_lt HY.out] at b4
      have hg2 := b3.lt
      go_wp2_with (first
        | ((with_reducible refine wpList_load_row ?_ 110 (.tmp 5) ?_ (w.heap.size + 1 + 1 + 1) ?_ 110 (whole (!(na == nb)) (x * y).testBit) (0, 0) _ b4.out Try.underlying110 ?_ (info_whole _ _) ?_); exact rfl; exact rfl; exact rfl; exact rfl)
        | ((with_reducible refine wpList_store_row ?_ 110 (.tmp 4) (.tmp 29) ?_ (w.heap.size + 1 + 1) (whole (!(na == nb)) (x * y).testBit) ?_ ?_ 110 _ b3.out (info_whole _ _) (by simp only [whole_size]) (whole_one _ _) ?_); exact rfl; exact rfl; exact rfl; exact rfl))
      refine bodyPost_ret (v := wholeV (!(na == nb)) (x * y)) (results_cell_row rfl _ _ (w.heap.size + 1 + 1) 110 (whole (!(na == nb)) (x * y).testBit) (0, 0) _ rfl b3.row Try.underlying110 rfl (info_whole _ _)) rfl ⟨rfl, below_setRow hb (by omega) _⟩

end Go.Proofs.Ytdbdeodcldogmaa
