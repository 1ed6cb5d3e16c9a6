/-
  ExactsBy: the walk, for every three numbers.
-/
import Derived.Test.YtonbinbjddameaaLives01
import Derived.Test.YtonbinbjddameaaRef01f
namespace Go.Proofs.Ytonbinbjddameaa
open Go.RowKit
set_option linter.unusedSimpArgs false
set_option linter.unusedVariables false

theorem alike_same (x y : Int) (w : World) :
    Calls Try.prog 10 #[.int .i64 x, .int .i64 y, .int .i64 x, .int .i64 y] w fun e w' => e = .returned (.bool true) ∧ w' = w := by
  go_enter Try.func10, Try.ntmps10
  go_wp2
  go_ret
  exact ⟨rfl, rfl⟩

theorem downV_pair (a num den : Int) : ∃ x y, downV a num den = .tuple #[.int .i64 x, .int .i64 y] := by unfold downV ans; split <;> exact ⟨_, _, rfl⟩
theorem upV_pair (a num den : Int) : ∃ x y, upV a num den = .tuple #[.int .i64 x, .int .i64 y] := by unfold upV ans; split <;> exact ⟨_, _, rfl⟩
set_option maxHeartbeats 4000000 in
set_option maxRecDepth 100000 in
theorem by_walk (a num den : Int) (w : World) (ha : (Lit.int .i64 a).wf = true) (hn : (Lit.int .i64 num).wf = true) (hd : (Lit.int .i64 den).wf = true) :
    Calls Try.prog 5 #[.int .i64 a, .int .i64 num, .int .i64 den] w fun e w' => e = .returned (.bool true) ∧ Below w.heap.size w w' := by
  have ha := In64.of_wf ha; have hn := In64.of_wf hn; have hd := In64.of_wf hd
  have c1 := Lib.hid (fun w => down_any a num den w ha hn hd)
  have c2 := Lib.hid (fun w => rdown_any a num den w ha hn hd)
  have c3 := Lib.hid (fun w => up_any a num den w ha hn hd)
  have c4 := Lib.hid (fun w => rup_any a num den w ha hn hd)
  obtain ⟨x, y, h1⟩ := downV_pair a num den
  obtain ⟨x', y', h2⟩ := upV_pair a num den
  rw [h1] at c1 c2
  rw [h2] at c3 c4
  clear ha hn hd h1 h2
  have l := Lib.hid lives01_any
  have k := Lib.hid alike_same
  go_enter Try.func5, Try.ntmps5
  go_wp2_with fail
  refine (c1.out _).mono ?_
  rintro e w1 ⟨rfl, b1⟩
  go_wp2_with fail
  refine (c2.out _).mono ?_
  rintro e w2 ⟨rfl, b2⟩
  go_wp2_with fail
  refine (k.out _ _ _).mono ?_
  rintro e w3 ⟨rfl, rfl⟩
  go_wp2_with fail
  refine (c3.out _).mono ?_
  rintro e w4 ⟨rfl, b4⟩
  go_wp2_with fail
  refine (c4.out _).mono ?_
  rintro e w5 ⟨rfl, b5⟩
  go_wp2_with fail
  refine (k.out _ _ _).mono ?_
  rintro e w6 ⟨rfl, rfl⟩
  go_wp2_with fail
  refine (l.out _).mono ?_
  rintro e w7 ⟨rfl, b7⟩
  go_wp2_with fail
  go_ret
  exact ⟨rfl, andB (andB (andB (andB b1 b2) b4) b5) b7⟩

end Go.Proofs.Ytonbinbjddameaa
