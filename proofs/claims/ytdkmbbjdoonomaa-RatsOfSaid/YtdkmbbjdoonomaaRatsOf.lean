/-
  RatsOf: the walk, for every two numbers.
-/
import Derived.Test.YtdkmbbjdoonomaaRef02e
import Derived.Test.YtdkmbbjdoonomaaLives02
namespace Go.Proofs.Ytdkmbbjdoonomaa
open Go.RowKit
set_option linter.unusedSimpArgs false
set_option linter.unusedVariables false

set_option maxHeartbeats 4000000 in
set_option maxRecDepth 100000 in
theorem ratsof_any (n d : Int) (w : World) (h1 : In64 n) (h2 : In64 d) :
    Calls Try.prog 3 #[.int .i64 n, .int .i64 d] w fun e w' => e = .returned (.bool true) ∧ Below w.heap.size w w' := by
  have o1 := Lib.hid (fun w => of_rat n d w h1 h2)
  have o2 := Lib.hid (fun w => rof2_any n d w h1 h2)
  have m1 := Lib.hid (fun w => may_any n d w h1 h2)
  have m2 := Lib.hid (fun w => rmay_any n d w)
  have i1 := Lib.hid (fun w => inverse_any n d w h1 h2)
  have i2 := Lib.hid (fun w => rinverse_any n d w)
  rw [show (if mayB n d = true then Value.agg #[.int .i64 d, .int .i64 n] else .agg #[.int .i64 0, .int .i64 0]) = .agg #[.int .i64 (alD n d), .int .i64 (alN n d)] by unfold alD alN; split <;> rfl] at i2
  have l := Lib.hid lives02_any
  unfold ofV at o1 o2
  have B0 := Lib.hid (Below.refl w.heap.size w)
  clear h1 h2
  generalize ofN n d = x at *
  generalize ofD n d = y at *
  generalize ofE n d = z at *
  generalize mayB n d = m at *
  generalize alD n d = p at *
  generalize alN n d = q at *
  go_enter Try.func3, Try.ntmps3
  go_wp2_with fail
  refine (o1.out _).mono ?_
  rintro e w1 ⟨rfl, b1⟩
  have B_1 := Lib.hid (B0.out.trans (b1.mono B0.out.size))
  clear b1
  have KX_a1 := Lib.hid (Blk.new w1 #[.int .i64 x, .int .i64 y] 23)
  have B_a1 := Lib.hid (B_1.out.alloc B_1.out.size (.cells #[.int .i64 x, .int .i64 y] 23))
  go_wp2_with fail
  refine (o2.out _).mono ?_
  rintro e w2 ⟨rfl, b2⟩
  have KX_2 := Lib.hid (KX_a1.out.below b2 KX_a1.out.lt)
  have B_2 := Lib.hid (B_a1.out.trans (b2.mono B_a1.out.size))
  clear b2
  have KX_a2 := Lib.hid (KX_2.out.alloc (.cells #[.int .i64 x, .int .i64 y] 23))
  have KY_a2 := Lib.hid (Blk.new w2 #[.int .i64 x, .int .i64 y] 23)
  have B_a2 := Lib.hid (B_2.out.alloc B_2.out.size (.cells #[.int .i64 x, .int .i64 y] 23))
  have KZ := Lib.hid (Blk.newAt (w2.alloc (.cells #[.int .i64 x, .int .i64 y] 23)) #[.int .i64 n, .int .i64 d] 23 (g := w2.heap.size + 1) (by simp))
  have KX := Lib.hid (KX_a2.out.alloc (.cells #[.int .i64 n, .int .i64 d] 23))
  have KY := Lib.hid (KY_a2.out.alloc (.cells #[.int .i64 n, .int .i64 d] 23))
  have BW := Lib.hid (B_a2.out.alloc B_a2.out.size (.cells #[.int .i64 n, .int .i64 d] 23))
  go_wp2_with fail
  generalize (w2.alloc (.cells #[.int .i64 x, .int .i64 y] 23)).alloc (.cells #[.int .i64 n, .int .i64 d] 23) = W at *
  refine region_still (by kernel_rfl) [.agg #[.int .i64 x, .int .i64 y], .agg #[.int .i64 x, .int .i64 y], .bool true, .bool true, .int .i64 z, .int .i64 z, .bool true, .bool true, .bool true, .agg #[.int .i64 n, .int .i64 d], .bool m, .agg #[.int .i64 n, .int .i64 d], .bool m, .bool true, .bool true, .bool true, .agg #[.int .i64 n, .int .i64 d], .agg #[.int .i64 p, .int .i64 q], .agg #[.int .i64 n, .int .i64 d], .agg #[.int .i64 p, .int .i64 q], .bool true, .bool true, .bool true, .bool true, .bool true, .bool true]
    (fun w' => Below W.heap.size W w') (by kernel_rfl) (Below.refl _ _).drew ?_
  intro af haf
  simp only [puts, Act.put, List.getD_cons_zero, List.getD_cons_succ, List.setIfInBounds_toArray, List.set_cons_succ, List.set_cons_zero] at haf
  subst haf
  refine ⟨?_, ?_⟩
  · simp only [EachTo]
    refine ⟨?_, ?_, ?_, ?_, ?_, ?_, ?_, ?_, ?_, ?_, ?_, ?_, ?_, ?_, ?_, ?_, ?_, ?_, ?_, ?_, ?_, ?_, ?_, ?_, ?_, ?_, trivial⟩
    · intro w' hS
      refine OpTo.plain ?_ ?_
      exact rfl
      have d0 := (KX.out.below hS KX.out.lt).cell 0; have e0 := (KX.out.below hS KX.out.lt).cell 1
      simp at d0 e0
      have HS := Lib.hid hS
      clear hS
      go_wp2_with fail
      all_goals first | exact HS.out | exact ⟨rfl, HS.out⟩ | rfl
    · intro w' hS
      refine OpTo.plain ?_ ?_
      exact rfl
      have d0 := (KY.out.below hS KY.out.lt).cell 0; have e0 := (KY.out.below hS KY.out.lt).cell 1
      simp at d0 e0
      have HS := Lib.hid hS
      clear hS
      go_wp2_with fail
      all_goals first | exact HS.out | exact ⟨rfl, HS.out⟩ | rfl
    · intro w' hS
      refine OpTo.plain ?_ ?_
      exact rfl
      have HS := Lib.hid hS
      clear hS
      go_wp2_with fail
      all_goals first | exact HS.out | exact ⟨rfl, HS.out⟩ | rfl
    · intro w' hS
      refine OpTo.plain ?_ ?_
      exact rfl
      have HS := Lib.hid hS
      clear hS
      go_wp2_with fail
      all_goals first | exact HS.out | exact ⟨rfl, HS.out⟩ | rfl
    · intro w' hS
      refine OpTo.wanted ?_ ?_
      kernel_rfl
      have HS := Lib.hid hS
      clear hS
      go_wp2_with fail
      all_goals first | exact HS.out | exact ⟨rfl, HS.out⟩ | rfl
    · intro w' hS
      refine OpTo.wanted ?_ ?_
      kernel_rfl
      have HS := Lib.hid hS
      clear hS
      go_wp2_with fail
      all_goals first | exact HS.out | exact ⟨rfl, HS.out⟩ | rfl
    · intro w' hS
      refine OpTo.wanted ?_ ?_
      kernel_rfl
      have HS := Lib.hid hS
      clear hS
      go_wp2_with fail
      all_goals first | exact HS.out | exact ⟨rfl, HS.out⟩ | rfl
    · intro w' hS
      refine OpTo.plain ?_ ?_
      exact rfl
      have HS := Lib.hid hS
      clear hS
      go_wp2_with fail
      all_goals first | exact HS.out | exact ⟨rfl, HS.out⟩ | rfl
    · intro w' hS
      refine OpTo.plain ?_ ?_
      exact rfl
      have HS := Lib.hid hS
      clear hS
      go_wp2_with fail
      all_goals first | exact HS.out | exact ⟨rfl, HS.out⟩ | rfl
    · intro w' hS
      refine OpTo.wanted ?_ ?_
      kernel_rfl
      have d0 := (KZ.out.below hS KZ.out.lt).cell 0; have e0 := (KZ.out.below hS KZ.out.lt).cell 1
      simp at d0 e0
      have HS := Lib.hid hS
      clear hS
      go_wp2_with fail
      all_goals first | exact HS.out | exact ⟨rfl, HS.out⟩ | rfl
    · intro w' hS
      refine OpTo.wanted ?_ ?_
      kernel_rfl
      have HS := Lib.hid hS
      clear hS
      go_wp2_with fail
      refine (m1.out w').mono ?_
      rintro e w'' ⟨rfl, hb2⟩
      exact ⟨rfl, andB HS.out hb2⟩
    · intro w' hS
      refine OpTo.wanted ?_ ?_
      kernel_rfl
      have d0 := (KZ.out.below hS KZ.out.lt).cell 0; have e0 := (KZ.out.below hS KZ.out.lt).cell 1
      simp at d0 e0
      have HS := Lib.hid hS
      clear hS
      go_wp2_with fail
      all_goals first | exact HS.out | exact ⟨rfl, HS.out⟩ | rfl
    · intro w' hS
      refine OpTo.wanted ?_ ?_
      kernel_rfl
      have HS := Lib.hid hS
      clear hS
      go_wp2_with fail
      refine (m2.out w').mono ?_
      rintro e w'' ⟨rfl, hb2⟩
      exact ⟨rfl, andB HS.out hb2⟩
    · intro w' hS
      refine OpTo.wanted ?_ ?_
      kernel_rfl
      have HS := Lib.hid hS
      clear hS
      go_wp2_with fail
      all_goals first | exact HS.out | exact ⟨rfl, HS.out⟩ | rfl
    · intro w' hS
      refine OpTo.plain ?_ ?_
      exact rfl
      have HS := Lib.hid hS
      clear hS
      go_wp2_with fail
      all_goals first | exact HS.out | exact ⟨rfl, HS.out⟩ | rfl
    · intro w' hS
      refine OpTo.plain ?_ ?_
      exact rfl
      have HS := Lib.hid hS
      clear hS
      go_wp2_with fail
      all_goals first | exact HS.out | exact ⟨rfl, HS.out⟩ | rfl
    · intro w' hS
      refine OpTo.wanted ?_ ?_
      kernel_rfl
      have d0 := (KZ.out.below hS KZ.out.lt).cell 0; have e0 := (KZ.out.below hS KZ.out.lt).cell 1
      simp at d0 e0
      have HS := Lib.hid hS
      clear hS
      go_wp2_with fail
      all_goals first | exact HS.out | exact ⟨rfl, HS.out⟩ | rfl
    · intro w' hS
      refine OpTo.wanted ?_ ?_
      kernel_rfl
      have HS := Lib.hid hS
      clear hS
      go_wp2_with fail
      refine (i1.out w').mono ?_
      rintro e w'' ⟨rfl, hb2⟩
      exact ⟨rfl, andB HS.out hb2⟩
    · intro w' hS
      refine OpTo.wanted ?_ ?_
      kernel_rfl
      have d0 := (KZ.out.below hS KZ.out.lt).cell 0; have e0 := (KZ.out.below hS KZ.out.lt).cell 1
      simp at d0 e0
      have HS := Lib.hid hS
      clear hS
      go_wp2_with fail
      all_goals first | exact HS.out | exact ⟨rfl, HS.out⟩ | rfl
    · intro w' hS
      refine OpTo.wanted ?_ ?_
      kernel_rfl
      have HS := Lib.hid hS
      clear hS
      go_wp2_with fail
      refine (i2.out w').mono ?_
      rintro e w'' ⟨rfl, hb2⟩
      exact ⟨rfl, andB HS.out hb2⟩
    · intro w' hS
      refine OpTo.wanted ?_ ?_
      kernel_rfl
      have HS := Lib.hid hS
      clear hS
      go_wp2_with fail
      all_goals first | exact HS.out | exact ⟨rfl, HS.out⟩ | rfl
    · intro w' hS
      refine OpTo.plain ?_ ?_
      exact rfl
      have HS := Lib.hid hS
      clear hS
      go_wp2_with fail
      all_goals first | exact HS.out | exact ⟨rfl, HS.out⟩ | rfl
    · intro w' hS
      refine OpTo.plain ?_ ?_
      exact rfl
      have HS := Lib.hid hS
      clear hS
      go_wp2_with fail
      all_goals first | exact HS.out | exact ⟨rfl, HS.out⟩ | rfl
    · intro w' hS
      refine OpTo.wanted ?_ ?_
      kernel_rfl
      have HS := Lib.hid hS
      clear hS
      go_wp2_with fail
      refine (l.out w').mono ?_
      rintro e w'' ⟨rfl, hb2⟩
      exact ⟨rfl, andB HS.out hb2⟩
    · intro w' hS
      refine OpTo.plain ?_ ?_
      exact rfl
      have HS := Lib.hid hS
      clear hS
      go_wp2_with fail
      all_goals first | exact HS.out | exact ⟨rfl, HS.out⟩ | rfl
    · intro w' hS
      refine OpTo.plain ?_ ?_
      exact rfl
      have HS := Lib.hid hS
      clear hS
      go_wp2_with fail
      all_goals first | exact HS.out | exact ⟨rfl, HS.out⟩ | rfl
  intro w' hS
  have HS := Lib.hid hS
  clear hS
  go_wp2_with fail
  go_ret
  exact ⟨rfl, BW.out.trans (HS.out.mono BW.out.size)⟩
theorem ratsof_walk (n d : Int) (w : World) (h0 : (Lit.int .i64 n).wf = true) (h1 : (Lit.int .i64 d).wf = true) :
    Calls Try.prog 3 #[.int .i64 n, .int .i64 d] w fun e w' => e = .returned (.bool true) ∧ Below w.heap.size w w' :=
  ratsof_any n d w (In64.of_wf h0) (In64.of_wf h1)

end Go.Proofs.Ytdkmbbjdoonomaa
