/-
  RatsBy: the walk, for every number and rate.
-/
import Derived.Test.YtdkmbbjdoonomaaRef02e
import Derived.Test.YtdkmbbjdoonomaaLives02
namespace Go.Proofs.Ytdkmbbjdoonomaa
open Go.RowKit
set_option linter.unusedSimpArgs false
set_option linter.unusedVariables false

theorem downV2_pair (a num den : Int) : ∃ x y, downV2 a num den = .tuple #[.int .i64 x, .int .i64 y] := by unfold downV2 downV ans; (repeat' split) <;> exact ⟨_, _, rfl⟩
theorem upV2_pair (a num den : Int) : ∃ x y, upV2 a num den = .tuple #[.int .i64 x, .int .i64 y] := by unfold upV2 upV ans; (repeat' split) <;> exact ⟨_, _, rfl⟩
set_option maxHeartbeats 4000000 in
set_option maxRecDepth 100000 in
theorem ratsby_any (n a b : Int) (w : World) (h : In64 n) (h1 : In64 a) (h2 : In64 b) :
    Calls Try.prog 5 #[.int .i64 n, .agg #[.int .i64 a, .int .i64 b]] w fun e w' => e = .returned (.bool true) ∧ Below w.heap.size w w' := by
  have d1 := Lib.hid (fun w => rdown_rat n a b w h h1 h2)
  have d2 := Lib.hid (fun w => r2down_any n a b w h h1 h2)
  have u1 := Lib.hid (fun w => rup_rat n a b w h h1 h2)
  have u2 := Lib.hid (fun w => r2up_any n a b w h h1 h2)
  have f1 := Lib.hid (fun w => fits_any n a b w h h1 h2)
  have f2 := Lib.hid (fun w => rfits_any n a b w h)
  obtain ⟨x, y, hd⟩ := downV2_pair n a b
  obtain ⟨x', y', hu⟩ := upV2_pair n a b
  rw [hd] at d1 d2
  rw [hu] at u1 u2
  have l := Lib.hid lives02_any
  clear h h1 h2 hd hu
  generalize fitN n a b = f at *
  have KR := Lib.hid (Blk.new w #[.int .i64 a, .int .i64 b] 23)
  have B0 := Lib.hid ((Below.refl w.heap.size w).alloc (Nat.le_refl _) (.cells #[.int .i64 a, .int .i64 b] 23))
  go_enter Try.func5, Try.ntmps5
  go_wp2_with fail
  refine (d1.out _).mono ?_
  rintro e w1 ⟨rfl, b1⟩
  have KR_1 := Lib.hid (KR.out.below b1 KR.out.lt)
  have B_1 := Lib.hid (B0.out.trans (b1.mono B0.out.size))
  clear b1
  have x0_KR_1 := KR_1.out.cell 0; have x1_KR_1 := KR_1.out.cell 1
  simp at x0_KR_1 x1_KR_1
  go_wp2_with fail
  refine (d2.out _).mono ?_
  rintro e w2 ⟨rfl, b2⟩
  have KR_2 := Lib.hid (KR_1.out.below b2 KR_1.out.lt)
  have B_2 := Lib.hid (B_1.out.trans (b2.mono B_1.out.size))
  clear b2
  have x0_KR_2 := KR_2.out.cell 0; have x1_KR_2 := KR_2.out.cell 1
  simp at x0_KR_2 x1_KR_2
  go_wp2_with fail
  refine (u1.out _).mono ?_
  rintro e w3 ⟨rfl, b3⟩
  have KR_3 := Lib.hid (KR_2.out.below b3 KR_2.out.lt)
  have B_3 := Lib.hid (B_2.out.trans (b3.mono B_2.out.size))
  clear b3
  have x0_KR_3 := KR_3.out.cell 0; have x1_KR_3 := KR_3.out.cell 1
  simp at x0_KR_3 x1_KR_3
  go_wp2_with fail
  refine (u2.out _).mono ?_
  rintro e w4 ⟨rfl, b4⟩
  have KR_4 := Lib.hid (KR_3.out.below b4 KR_3.out.lt)
  have B_4 := Lib.hid (B_3.out.trans (b4.mono B_3.out.size))
  clear b4
  go_wp2_with fail
  have KR := KR_4
  refine region_still (by kernel_rfl) [.int .i64 x, .int .i64 x, .bool true, .bool true, .int .i64 y, .int .i64 y, .bool true, .bool true, .bool true, .int .i64 x', .int .i64 x', .bool true, .bool true, .bool true, .int .i64 y', .int .i64 y', .bool true, .bool true, .bool true, .int .i64 n, .agg #[.int .i64 a, .int .i64 b], .int .i64 f, .int .i64 n, .agg #[.int .i64 a, .int .i64 b], .int .i64 f, .bool true, .bool true, .bool true, .bool true, .bool true, .bool true]
    (fun w' => Below w4.heap.size w4 w') (by kernel_rfl) (Below.refl _ _).drew ?_
  intro af haf
  simp only [puts, Act.put, List.getD_cons_zero, List.getD_cons_succ, List.setIfInBounds_toArray, List.set_cons_succ, List.set_cons_zero] at haf
  subst haf
  refine ⟨?_, ?_⟩
  · simp only [EachTo]
    refine ⟨?_, ?_, ?_, ?_, ?_, ?_, ?_, ?_, ?_, ?_, ?_, ?_, ?_, ?_, ?_, ?_, ?_, ?_, ?_, ?_, ?_, ?_, ?_, ?_, ?_, ?_, ?_, ?_, ?_, ?_, ?_, trivial⟩
    · intro w' hS
      refine OpTo.plain ?_ ?_
      exact rfl
      have HS := Lib.hid hS
      clear hS
      go_wp2_with fail
      all_goals first | exact HS.out | exact ⟨rfl, HS.out⟩ | rfl
    · intro w' hS
      refine OpTo.plain ?_ ?_
      exact rfl
      have HS := Lib.hid hS
      clear hS
      go_wp2_with fail
      all_goals first | exact HS.out | exact ⟨rfl, HS.out⟩ | rfl
    · intro w' hS
      refine OpTo.plain ?_ ?_
      exact rfl
      have HS := Lib.hid hS
      clear hS
      go_wp2_with fail
      all_goals first | exact HS.out | exact ⟨rfl, HS.out⟩ | rfl
    · intro w' hS
      refine OpTo.plain ?_ ?_
      exact rfl
      have HS := Lib.hid hS
      clear hS
      go_wp2_with fail
      all_goals first | exact HS.out | exact ⟨rfl, HS.out⟩ | rfl
    · intro w' hS
      refine OpTo.wanted ?_ ?_
      kernel_rfl
      have HS := Lib.hid hS
      clear hS
      go_wp2_with fail
      all_goals first | exact HS.out | exact ⟨rfl, HS.out⟩ | rfl
    · intro w' hS
      refine OpTo.wanted ?_ ?_
      kernel_rfl
      have HS := Lib.hid hS
      clear hS
      go_wp2_with fail
      all_goals first | exact HS.out | exact ⟨rfl, HS.out⟩ | rfl
    · intro w' hS
      refine OpTo.wanted ?_ ?_
      kernel_rfl
      have HS := Lib.hid hS
      clear hS
      go_wp2_with fail
      all_goals first | exact HS.out | exact ⟨rfl, HS.out⟩ | rfl
    · intro w' hS
      refine OpTo.plain ?_ ?_
      exact rfl
      have HS := Lib.hid hS
      clear hS
      go_wp2_with fail
      all_goals first | exact HS.out | exact ⟨rfl, HS.out⟩ | rfl
    · intro w' hS
      refine OpTo.plain ?_ ?_
      exact rfl
      have HS := Lib.hid hS
      clear hS
      go_wp2_with fail
      all_goals first | exact HS.out | exact ⟨rfl, HS.out⟩ | rfl
    · intro w' hS
      refine OpTo.wanted ?_ ?_
      kernel_rfl
      have HS := Lib.hid hS
      clear hS
      go_wp2_with fail
      all_goals first | exact HS.out | exact ⟨rfl, HS.out⟩ | rfl
    · intro w' hS
      refine OpTo.wanted ?_ ?_
      kernel_rfl
      have HS := Lib.hid hS
      clear hS
      go_wp2_with fail
      all_goals first | exact HS.out | exact ⟨rfl, HS.out⟩ | rfl
    · intro w' hS
      refine OpTo.wanted ?_ ?_
      kernel_rfl
      have HS := Lib.hid hS
      clear hS
      go_wp2_with fail
      all_goals first | exact HS.out | exact ⟨rfl, HS.out⟩ | rfl
    · intro w' hS
      refine OpTo.plain ?_ ?_
      exact rfl
      have HS := Lib.hid hS
      clear hS
      go_wp2_with fail
      all_goals first | exact HS.out | exact ⟨rfl, HS.out⟩ | rfl
    · intro w' hS
      refine OpTo.plain ?_ ?_
      exact rfl
      have HS := Lib.hid hS
      clear hS
      go_wp2_with fail
      all_goals first | exact HS.out | exact ⟨rfl, HS.out⟩ | rfl
    · intro w' hS
      refine OpTo.wanted ?_ ?_
      kernel_rfl
      have HS := Lib.hid hS
      clear hS
      go_wp2_with fail
      all_goals first | exact HS.out | exact ⟨rfl, HS.out⟩ | rfl
    · intro w' hS
      refine OpTo.wanted ?_ ?_
      kernel_rfl
      have HS := Lib.hid hS
      clear hS
      go_wp2_with fail
      all_goals first | exact HS.out | exact ⟨rfl, HS.out⟩ | rfl
    · intro w' hS
      refine OpTo.wanted ?_ ?_
      kernel_rfl
      have HS := Lib.hid hS
      clear hS
      go_wp2_with fail
      all_goals first | exact HS.out | exact ⟨rfl, HS.out⟩ | rfl
    · intro w' hS
      refine OpTo.plain ?_ ?_
      exact rfl
      have HS := Lib.hid hS
      clear hS
      go_wp2_with fail
      all_goals first | exact HS.out | exact ⟨rfl, HS.out⟩ | rfl
    · intro w' hS
      refine OpTo.plain ?_ ?_
      exact rfl
      have HS := Lib.hid hS
      clear hS
      go_wp2_with fail
      all_goals first | exact HS.out | exact ⟨rfl, HS.out⟩ | rfl
    · intro w' hS
      refine OpTo.wanted ?_ ?_
      kernel_rfl
      have HS := Lib.hid hS
      clear hS
      go_wp2_with fail
      all_goals first | exact HS.out | exact ⟨rfl, HS.out⟩ | rfl
    · intro w' hS
      refine OpTo.wanted ?_ ?_
      kernel_rfl
      have d0 := (KR.out.below hS KR.out.lt).cell 0; have e0 := (KR.out.below hS KR.out.lt).cell 1
      simp at d0 e0
      have HS := Lib.hid hS
      clear hS
      go_wp2_with fail
      all_goals first | exact HS.out | exact ⟨rfl, HS.out⟩ | rfl
    · intro w' hS
      refine OpTo.wanted ?_ ?_
      kernel_rfl
      have HS := Lib.hid hS
      clear hS
      go_wp2_with fail
      refine (f1.out w').mono ?_
      rintro e w'' ⟨rfl, hb2⟩
      exact ⟨rfl, andB HS.out hb2⟩
    · intro w' hS
      refine OpTo.wanted ?_ ?_
      kernel_rfl
      have HS := Lib.hid hS
      clear hS
      go_wp2_with fail
      all_goals first | exact HS.out | exact ⟨rfl, HS.out⟩ | rfl
    · intro w' hS
      refine OpTo.wanted ?_ ?_
      kernel_rfl
      have d0 := (KR.out.below hS KR.out.lt).cell 0; have e0 := (KR.out.below hS KR.out.lt).cell 1
      simp at d0 e0
      have HS := Lib.hid hS
      clear hS
      go_wp2_with fail
      all_goals first | exact HS.out | exact ⟨rfl, HS.out⟩ | rfl
    · intro w' hS
      refine OpTo.wanted ?_ ?_
      kernel_rfl
      have HS := Lib.hid hS
      clear hS
      go_wp2_with fail
      refine (f2.out w').mono ?_
      rintro e w'' ⟨rfl, hb2⟩
      exact ⟨rfl, andB HS.out hb2⟩
    · intro w' hS
      refine OpTo.wanted ?_ ?_
      kernel_rfl
      have HS := Lib.hid hS
      clear hS
      go_wp2_with fail
      all_goals first | exact HS.out | exact ⟨rfl, HS.out⟩ | rfl
    · intro w' hS
      refine OpTo.plain ?_ ?_
      exact rfl
      have HS := Lib.hid hS
      clear hS
      go_wp2_with fail
      all_goals first | exact HS.out | exact ⟨rfl, HS.out⟩ | rfl
    · intro w' hS
      refine OpTo.plain ?_ ?_
      exact rfl
      have HS := Lib.hid hS
      clear hS
      go_wp2_with fail
      all_goals first | exact HS.out | exact ⟨rfl, HS.out⟩ | rfl
    · intro w' hS
      refine OpTo.wanted ?_ ?_
      kernel_rfl
      have HS := Lib.hid hS
      clear hS
      go_wp2_with fail
      refine (l.out w').mono ?_
      rintro e w'' ⟨rfl, hb2⟩
      exact ⟨rfl, andB HS.out hb2⟩
    · intro w' hS
      refine OpTo.plain ?_ ?_
      exact rfl
      have HS := Lib.hid hS
      clear hS
      go_wp2_with fail
      all_goals first | exact HS.out | exact ⟨rfl, HS.out⟩ | rfl
    · intro w' hS
      refine OpTo.plain ?_ ?_
      exact rfl
      have HS := Lib.hid hS
      clear hS
      go_wp2_with fail
      all_goals first | exact HS.out | exact ⟨rfl, HS.out⟩ | rfl
  intro w' hS
  have HS := Lib.hid hS
  clear hS
  go_wp2_with fail
  go_ret
  exact ⟨rfl, B_4.out.trans (HS.out.mono B_4.out.size)⟩
theorem ratsby_walk (n a b : Int) (w : World) (h0 : (Lit.int .i64 n).wf = true) (h1 : (Lit.int .i64 a).wf = true) (h2 : (Lit.int .i64 b).wf = true) :
    Calls Try.prog 5 #[.int .i64 n, .agg #[.int .i64 a, .int .i64 b]] w fun e w' => e = .returned (.bool true) ∧ Below w.heap.size w w' :=
  ratsby_any n a b w (In64.of_wf h0) (In64.of_wf h1) (In64.of_wf h2)

end Go.Proofs.Ytdkmbbjdoonomaa
