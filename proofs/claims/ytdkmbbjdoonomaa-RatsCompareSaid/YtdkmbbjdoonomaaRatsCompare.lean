/-
  RatsCompare: the walk, for every two rates.
-/
import Derived.Test.YtdkmbbjdoonomaaRef02e
import Derived.Test.YtdkmbbjdoonomaaLives02
namespace Go.Proofs.Ytdkmbbjdoonomaa
open Go.RowKit
set_option linter.unusedSimpArgs false
set_option linter.unusedVariables false

set_option maxHeartbeats 4000000 in
set_option maxRecDepth 100000 in
theorem ratscompare_any (an ad bn bd : Int) (w : World) (h1 : In64 an) (h2 : In64 ad) (h3 : In64 bn) (h4 : In64 bd) :
    Calls Try.prog 4 #[.agg #[.int .i64 an, .int .i64 ad], .agg #[.int .i64 bn, .int .i64 bd]] w fun e w' => e = .returned (.bool true) ∧ Below w.heap.size w w' := by
  have c1 := Lib.hid (fun w => compare_any an ad bn bd w h1 h2 h3 h4)
  have c2 := Lib.hid (fun w => rcompare_any an ad bn bd w)
  have l := Lib.hid lives02_any
  clear h1 h2 h3 h4
  generalize cmpR an ad bn bd = r at *
  have k1 : Blk ((w.alloc (.cells #[.int .i64 an, .int .i64 ad] 23)).alloc (.cells #[.int .i64 bn, .int .i64 bd] 23)) w.heap.size #[.int .i64 an, .int .i64 ad] 23 := (Blk.new _ _ _).alloc _
  have k2 : Blk ((w.alloc (.cells #[.int .i64 an, .int .i64 ad] 23)).alloc (.cells #[.int .i64 bn, .int .i64 bd] 23)) (w.heap.size + 1) #[.int .i64 bn, .int .i64 bd] 23 := Blk.newAt _ _ _ (by simp)
  have b0 : Below w.heap.size w ((w.alloc (.cells #[.int .i64 an, .int .i64 ad] 23)).alloc (.cells #[.int .i64 bn, .int .i64 bd] 23)) := ((Below.refl _ _).alloc (Nat.le_refl _) _).alloc (by simp) _
  have KA := Lib.hid k1; have KB := Lib.hid k2; have B0 := Lib.hid b0
  clear k1 k2 b0
  go_enter Try.func4, Try.ntmps4
  go_wp2_with fail
  generalize (w.alloc (.cells #[.int .i64 an, .int .i64 ad] 23)).alloc (.cells #[.int .i64 bn, .int .i64 bd] 23) = W at *
  refine region_still (by kernel_rfl) [.agg #[.int .i64 an, .int .i64 ad], .agg #[.int .i64 bn, .int .i64 bd], .int .i64 r, .agg #[.int .i64 an, .int .i64 ad], .agg #[.int .i64 bn, .int .i64 bd], .int .i64 r, .bool true, .bool true, .bool true, .bool true, .bool true]
    (fun w' => Below W.heap.size W w') (by kernel_rfl) (Below.refl _ _).drew ?_
  intro af haf
  simp only [puts, Act.put, List.getD_cons_zero, List.getD_cons_succ, List.setIfInBounds_toArray, List.set_cons_succ, List.set_cons_zero] at haf
  subst haf
  refine ⟨?_, ?_⟩
  · simp only [EachTo]
    refine ⟨?_, ?_, ?_, ?_, ?_, ?_, ?_, ?_, ?_, ?_, ?_, trivial⟩
    · intro w' hS
      refine OpTo.plain ?_ ?_
      exact rfl
      have d0 := (KA.out.below hS KA.out.lt).cell 0; have e0 := (KA.out.below hS KA.out.lt).cell 1
      simp at d0 e0
      have HS := Lib.hid hS
      clear hS
      go_wp2_with fail
      all_goals first | exact HS.out | exact ⟨rfl, HS.out⟩ | rfl
    · intro w' hS
      refine OpTo.plain ?_ ?_
      exact rfl
      have d0 := (KB.out.below hS KB.out.lt).cell 0; have e0 := (KB.out.below hS KB.out.lt).cell 1
      simp at d0 e0
      have HS := Lib.hid hS
      clear hS
      go_wp2_with fail
      all_goals first | exact HS.out | exact ⟨rfl, HS.out⟩ | rfl
    · intro w' hS
      refine OpTo.plain ?_ ?_
      exact rfl
      have HS := Lib.hid hS
      clear hS
      go_wp2_with fail
      refine (c1.out w').mono ?_
      rintro e w'' ⟨rfl, hb2⟩
      exact ⟨rfl, andB HS.out hb2⟩
    · intro w' hS
      refine OpTo.plain ?_ ?_
      exact rfl
      have d0 := (KA.out.below hS KA.out.lt).cell 0; have e0 := (KA.out.below hS KA.out.lt).cell 1
      simp at d0 e0
      have HS := Lib.hid hS
      clear hS
      go_wp2_with fail
      all_goals first | exact HS.out | exact ⟨rfl, HS.out⟩ | rfl
    · intro w' hS
      refine OpTo.plain ?_ ?_
      exact rfl
      have d0 := (KB.out.below hS KB.out.lt).cell 0; have e0 := (KB.out.below hS KB.out.lt).cell 1
      simp at d0 e0
      have HS := Lib.hid hS
      clear hS
      go_wp2_with fail
      all_goals first | exact HS.out | exact ⟨rfl, HS.out⟩ | rfl
    · intro w' hS
      refine OpTo.plain ?_ ?_
      exact rfl
      have HS := Lib.hid hS
      clear hS
      go_wp2_with fail
      refine (c2.out w').mono ?_
      rintro e w'' ⟨rfl, hb2⟩
      exact ⟨rfl, andB HS.out hb2⟩
    · intro w' hS
      refine OpTo.plain ?_ ?_
      exact rfl
      have HS := Lib.hid hS
      clear hS
      go_wp2_with fail
      all_goals first | exact HS.out | exact ⟨rfl, HS.out⟩ | rfl
    · intro w' hS
      refine OpTo.plain ?_ ?_
      exact rfl
      have HS := Lib.hid hS
      clear hS
      go_wp2_with fail
      all_goals first | exact HS.out | exact ⟨rfl, HS.out⟩ | rfl
    · intro w' hS
      refine OpTo.wanted ?_ ?_
      kernel_rfl
      have HS := Lib.hid hS
      clear hS
      go_wp2_with fail
      refine (l.out w').mono ?_
      rintro e w'' ⟨rfl, hb2⟩
      exact ⟨rfl, andB HS.out hb2⟩
    · intro w' hS
      refine OpTo.plain ?_ ?_
      exact rfl
      have HS := Lib.hid hS
      clear hS
      go_wp2_with fail
      all_goals first | exact HS.out | exact ⟨rfl, HS.out⟩ | rfl
    · intro w' hS
      refine OpTo.plain ?_ ?_
      exact rfl
      have HS := Lib.hid hS
      clear hS
      go_wp2_with fail
      all_goals first | exact HS.out | exact ⟨rfl, HS.out⟩ | rfl
  intro w' hS
  have HS := Lib.hid hS
  clear hS
  go_wp2_with fail
  go_ret
  exact ⟨rfl, B0.out.trans (HS.out.mono B0.out.size)⟩
theorem ratscompare_walk (an ad bn bd : Int) (w : World) (h0 : (Lit.int .i64 an).wf = true) (h1 : (Lit.int .i64 ad).wf = true) (h2 : (Lit.int .i64 bn).wf = true) (h3 : (Lit.int .i64 bd).wf = true) :
    Calls Try.prog 4 #[.agg #[.int .i64 an, .int .i64 ad], .agg #[.int .i64 bn, .int .i64 bd]] w fun e w' => e = .returned (.bool true) ∧ Below w.heap.size w w' :=
  ratscompare_any an ad bn bd w (In64.of_wf h0) (In64.of_wf h1) (In64.of_wf h2) (In64.of_wf h3)

end Go.Proofs.Ytdkmbbjdoonomaa
