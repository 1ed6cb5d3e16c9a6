/-
  countinghouseref02: the greatest number that divides both.
-/
import Derived.Test.YtdkmbbjdoonomaaRef02
namespace Go.Proofs.Ytdkmbbjdoonomaa
open Go.RowKit
set_option linter.unusedSimpArgs false
set_option linter.unusedVariables false

set_option maxHeartbeats 1000000 in
theorem rinverse_any (n d : Int) (w : World) :
    Calls Try.prog 14 #[.agg #[.int .i64 n, .int .i64 d]] w fun e w' => e = .returned (if mayB n d then .agg #[.int .i64 d, .int .i64 n] else .agg #[.int .i64 0, .int .i64 0]) ∧ Below w.heap.size w w' := by
  have c1 := Lib.hid (fun w => rmay_any n d w)
  have k1 : Blk ((w.alloc (.cells #[.int .i64 n, .int .i64 d] 23)).alloc (.cells #[.int .i64 0, .int .i64 0] 23)) w.heap.size #[.int .i64 n, .int .i64 d] 23 := (Blk.new _ _ _).alloc _
  have k2 : Blk ((w.alloc (.cells #[.int .i64 n, .int .i64 d] 23)).alloc (.cells #[.int .i64 0, .int .i64 0] 23)) (w.heap.size + 1) #[.int .i64 0, .int .i64 0] 23 := Blk.newAt _ _ _ (by simp)
  have b0 : Below w.heap.size w ((w.alloc (.cells #[.int .i64 n, .int .i64 d] 23)).alloc (.cells #[.int .i64 0, .int .i64 0] 23)) := ((Below.refl _ _).alloc (Nat.le_refl _) _).alloc (by simp) _
  have K1 := Lib.hid k1; have K2 := Lib.hid k2; have B0 := Lib.hid b0
  clear k1 k2 b0
  cases hm : mayB n d
  · rw [hm] at c1
    go_enter Try.func14, Try.ntmps14
    go_wp2_with fail
    refine (c1.out _).mono ?_
    rintro e w1 ⟨rfl, b1⟩
    have q1 := K1.out.below b1 K1.out.lt; have q2 := K2.out.below b1 K2.out.lt
    have d0 := q2.cell 0; have d1 := q2.cell 1
    simp at d0 d1
    have f2 := q2.frozen
    go_wp2
    refine bodyPost_ret (v := .agg #[.int .i64 0, .int .i64 0]) (results_cell_row rfl _ _ (w.heap.size + 1) 23 #[.int .i64 0, .int .i64 0] (0, 0) _ rfl ((q2.set 0 (.int .i64 0)).set 1 (.int .i64 0)).out Try.underlying23 rfl (by kernel_rfl)) rfl ⟨by simp, ?_⟩
    exact ((B0.out.trans (b1.mono (by simp; omega))).setCell (by simp) _).setCell (by simp) _
  · rw [hm] at c1
    go_enter Try.func14, Try.ntmps14
    go_wp2_with fail
    refine (c1.out _).mono ?_
    rintro e w1 ⟨rfl, b1⟩
    have q1 := K1.out.below b1 K1.out.lt; have q2 := K2.out.below b1 K2.out.lt
    have d0 := q2.cell 0; have d1 := q2.cell 1; have e0 := q1.cell 0; have e1 := q1.cell 1
    simp at d0 d1 e0 e1
    have f2 := q2.frozen
    go_wp2
    refine bodyPost_ret (v := .agg #[.int .i64 d, .int .i64 n]) (results_cell_row rfl _ _ (w.heap.size + 1) 23 #[.int .i64 d, .int .i64 n] (0, 0) _ rfl ((q2.set 0 (.int .i64 d)).set 1 (.int .i64 n)).out Try.underlying23 rfl (by kernel_rfl)) rfl ⟨by simp, ?_⟩
    exact ((B0.out.trans (b1.mono (by simp; omega))).setCell (by simp) _).setCell (by simp) _

end Go.Proofs.Ytdkmbbjdoonomaa
