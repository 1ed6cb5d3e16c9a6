/-
  ExactsTwo: the walk, for every two numbers.
-/
import Derived.Test.YtonbinbjddameaaBy01
import Derived.Test.YtonbinbjddameaaRef01g
namespace Go.Proofs.Ytonbinbjddameaa
open Go.RowKit
set_option linter.unusedSimpArgs false
set_option linter.unusedVariables false

set_option maxHeartbeats 4000000 in
set_option maxRecDepth 100000 in
theorem two_walk (a b : Int) (w : World) (ha : (Lit.int .i64 a).wf = true) (hb : (Lit.int .i64 b).wf = true) :
    Calls Try.prog 3 #[.int .i64 a, .int .i64 b] w fun e w' => e = .returned (.bool true) ∧ Below w.heap.size w w' := by
  have ha := In64.of_wf ha; have hb := In64.of_wf hb
  have c1 := Lib.hid (fun w => add_any a b w ha hb)
  have c2 := Lib.hid (fun w => radd_any a b w ha hb)
  have c3 := Lib.hid (fun w => sub_any a b w ha hb)
  have c4 := Lib.hid (fun w => rsub_any a b w ha hb)
  have c5 := Lib.hid (fun w => mul_any a b w ha hb)
  have c6 := Lib.hid (fun w => rmul_any a b w ha hb)
  rw [ans_pair] at c1 c2 c3 c4 c5 c6
  clear ha hb
  have l := Lib.hid lives01_any
  have k := Lib.hid alike_same
  generalize okN (a + b) = x1 at *
  generalize erN (a + b) = y1 at *
  generalize okN (a - b) = x2 at *
  generalize erN (a - b) = y2 at *
  generalize okN (a * b) = x3 at *
  generalize erN (a * b) = y3 at *
  go_enter Try.func3, Try.ntmps3
  go_wp2_with fail
  refine (c1.out _).mono ?_
  rintro e w1 ⟨rfl, b1⟩
  go_wp2_with fail
  refine (c2.out _).mono ?_
  rintro e w2 ⟨rfl, b2⟩
  go_wp2_with fail
  refine (k.out _ _ _).mono ?_
  rintro e w3 ⟨rfl, rfl⟩
  go_wp2_with fail
  refine (c3.out _).mono ?_
  rintro e w4 ⟨rfl, b4⟩
  go_wp2_with fail
  refine (c4.out _).mono ?_
  rintro e w5 ⟨rfl, b5⟩
  go_wp2_with fail
  refine (k.out _ _ _).mono ?_
  rintro e w6 ⟨rfl, rfl⟩
  go_wp2_with fail
  refine (c5.out _).mono ?_
  rintro e w7 ⟨rfl, b7⟩
  go_wp2_with fail
  refine (c6.out _).mono ?_
  rintro e w8 ⟨rfl, b8⟩
  go_wp2_with fail
  refine (k.out _ _ _).mono ?_
  rintro e w9 ⟨rfl, rfl⟩
  go_wp2_with fail
  refine (l.out _).mono ?_
  rintro e w10 ⟨rfl, b10⟩
  go_wp2_with fail
  go_ret
  exact ⟨rfl, andB (andB (andB (andB (andB (andB b1 b2) b4) b5) b7) b8) b10⟩

end Go.Proofs.Ytonbinbjddameaa
