/-
  ExactsBack: what is added is taken off again, what is taken off is added again; and a number times one, and less itself. The walk, for every two numbers.
-/
import Derived.Test.YtonbinbjddameaaLives01
namespace Go.Proofs.Ytonbinbjddameaa
open Go.RowKit
set_option linter.unusedSimpArgs false
set_option linter.unusedVariables false

set_option maxHeartbeats 4000000 in
set_option maxRecDepth 100000 in
theorem back_any (a b : Int) (w : World) (ha : In64 a) (hb : In64 b) :
    Calls Try.prog 6 #[.int .i64 a, .int .i64 b] w fun e w' => e = .returned (.bool true) ∧ Below w.heap.size w w' := by
  have c1 := Lib.hid (fun w => add_any a b w ha hb)
  have c2 := Lib.hid (fun w => sub_any a b w ha hb)
  have c3 := Lib.hid (fun w => mul_any a 1 w ha (by decide))
  rw [show ans (a * 1) = .tuple #[.int .i64 a, .int .i64 0] from (congrArg ans (by omega)).trans (ans_of a ha)] at c3
  have c4 := Lib.hid (fun w b' (hlt : b' < w.heap.size) hc => sum_any b' 0 4 [a, b, a, b] w (by simp [ha, hb]) (by simp) hlt hc)
  rw [show ans [a, b, a, b].sum = ans ((a + b) * 2) from congrArg ans (by simp; omega)] at c4
  have c5 := Lib.hid (fun w s (hs : In64 s) => mul_any s 2 w hs (by decide))
  unfold ans at c4 c5
  have l := Lib.hid lives01_any
  by_cases h1 : In64 (a + b) <;> by_cases h2 : In64 (a - b)
  · rw [ans_of _ h1] at c1
    have c1b := Lib.hid (fun w => sub_any (a + b) b w h1 hb)
    rw [show ans (a + b - b) = .tuple #[.int .i64 a, .int .i64 0] from (congrArg ans (by omega)).trans (ans_of a ha)] at c1b
    have c5' := Lib.hid (fun w => c5.out w (a + b) h1)
    have hw : wrap64 (a + b) = a + b := wrap64_of _ h1
    rw [ans_of _ h2] at c2
    have c2b := Lib.hid (fun w => add_any (a - b) b w h2 hb)
    rw [show ans (a - b + b) = .tuple #[.int .i64 a, .int .i64 0] from (congrArg ans (by omega)).trans (ans_of a ha)] at c2b
    clear c5 h1 h2 ha hb
    go_enter Try.func6, Try.ntmps6
    go_wp2_with fail
    refine (c1.out _).mono ?_
    rintro e w1 ⟨rfl, b1⟩
    go_wp2_with fail
    refine (c1b.out _).mono ?_
    rintro e w2 ⟨rfl, b2⟩
    go_wp2_with fail
    refine (c2.out _).mono ?_
    rintro e w3 ⟨rfl, b3⟩
    go_wp2_with fail
    refine (c2b.out _).mono ?_
    rintro e w4 ⟨rfl, b4⟩
    go_wp2_with fail
    refine (c3.out _).mono ?_
    rintro e w5 ⟨rfl, b5⟩
    go_wp2_with fail
    have hlt : w5.heap.size < (w5.alloc (Obj.cells #[Value.int IntKind.i64 a, Value.int IntKind.i64 b, Value.int IntKind.i64 a, Value.int IntKind.i64 b] 2)).heap.size := by simp
    refine (c4.out _ w5.heap.size hlt (by intro i h; match i, h with | 0, _ => simp | 1, _ => simp | 2, _ => simp | 3, _ => simp)).mono ?_
    clear hlt
    rintro e w6 ⟨rfl, b6⟩
    go_wp2_with fail
    refine (c5'.out _).mono ?_
    rintro e w7 ⟨rfl, b7⟩
    go_wp2_with fail
    refine (l.out _).mono ?_
    rintro e w8 ⟨rfl, b8⟩
    go_wp2_with fail
    go_ret
    exact ⟨rfl, andB (andB (andB (Below.alloc (andB (andB (andB (andB (b1) b2) b3) b4) b5) (andB (andB (andB (andB (b1) b2) b3) b4) b5).size _) b6) b7) b8⟩
  · rw [ans_of _ h1] at c1
    have c1b := Lib.hid (fun w => sub_any (a + b) b w h1 hb)
    rw [show ans (a + b - b) = .tuple #[.int .i64 a, .int .i64 0] from (congrArg ans (by omega)).trans (ans_of a ha)] at c1b
    have c5' := Lib.hid (fun w => c5.out w (a + b) h1)
    have hw : wrap64 (a + b) = a + b := wrap64_of _ h1
    rw [ans_not _ h2] at c2
    clear c5 h1 h2 ha hb
    go_enter Try.func6, Try.ntmps6
    go_wp2_with fail
    refine (c1.out _).mono ?_
    rintro e w1 ⟨rfl, b1⟩
    go_wp2_with fail
    refine (c1b.out _).mono ?_
    rintro e w2 ⟨rfl, b2⟩
    go_wp2_with fail
    refine (c2.out _).mono ?_
    rintro e w3 ⟨rfl, b3⟩
    go_wp2_with fail
    refine (c3.out _).mono ?_
    rintro e w4 ⟨rfl, b4⟩
    go_wp2_with fail
    have hlt : w4.heap.size < (w4.alloc (Obj.cells #[Value.int IntKind.i64 a, Value.int IntKind.i64 b, Value.int IntKind.i64 a, Value.int IntKind.i64 b] 2)).heap.size := by simp
    refine (c4.out _ w4.heap.size hlt (by intro i h; match i, h with | 0, _ => simp | 1, _ => simp | 2, _ => simp | 3, _ => simp)).mono ?_
    clear hlt
    rintro e w5 ⟨rfl, b5⟩
    go_wp2_with fail
    refine (c5'.out _).mono ?_
    rintro e w6 ⟨rfl, b6⟩
    go_wp2_with fail
    refine (l.out _).mono ?_
    rintro e w7 ⟨rfl, b7⟩
    go_wp2_with fail
    go_ret
    exact ⟨rfl, andB (andB (andB (Below.alloc (andB (andB (andB (b1) b2) b3) b4) (andB (andB (andB (b1) b2) b3) b4).size _) b5) b6) b7⟩
  · rw [ans_not _ h1] at c1
    have c5' := Lib.hid (fun w => c5.out w 0 (by decide))
    rw [ans_of _ h2] at c2
    have c2b := Lib.hid (fun w => add_any (a - b) b w h2 hb)
    rw [show ans (a - b + b) = .tuple #[.int .i64 a, .int .i64 0] from (congrArg ans (by omega)).trans (ans_of a ha)] at c2b
    clear c5 h1 h2 ha hb
    go_enter Try.func6, Try.ntmps6
    go_wp2_with fail
    refine (c1.out _).mono ?_
    rintro e w1 ⟨rfl, b1⟩
    go_wp2_with fail
    refine (c2.out _).mono ?_
    rintro e w2 ⟨rfl, b2⟩
    go_wp2_with fail
    refine (c2b.out _).mono ?_
    rintro e w3 ⟨rfl, b3⟩
    go_wp2_with fail
    refine (c3.out _).mono ?_
    rintro e w4 ⟨rfl, b4⟩
    go_wp2_with fail
    have hlt : w4.heap.size < (w4.alloc (Obj.cells #[Value.int IntKind.i64 a, Value.int IntKind.i64 b, Value.int IntKind.i64 a, Value.int IntKind.i64 b] 2)).heap.size := by simp
    refine (c4.out _ w4.heap.size hlt (by intro i h; match i, h with | 0, _ => simp | 1, _ => simp | 2, _ => simp | 3, _ => simp)).mono ?_
    clear hlt
    rintro e w5 ⟨rfl, b5⟩
    go_wp2_with fail
    refine (c5'.out _).mono ?_
    rintro e w6 ⟨rfl, b6⟩
    go_wp2_with fail
    refine (l.out _).mono ?_
    rintro e w7 ⟨rfl, b7⟩
    go_wp2_with fail
    go_ret
    exact ⟨rfl, andB (andB (andB (Below.alloc (andB (andB (andB (b1) b2) b3) b4) (andB (andB (andB (b1) b2) b3) b4).size _) b5) b6) b7⟩
  · rw [ans_not _ h1] at c1
    have c5' := Lib.hid (fun w => c5.out w 0 (by decide))
    rw [ans_not _ h2] at c2
    clear c5 h1 h2 ha hb
    go_enter Try.func6, Try.ntmps6
    go_wp2_with fail
    refine (c1.out _).mono ?_
    rintro e w1 ⟨rfl, b1⟩
    go_wp2_with fail
    refine (c2.out _).mono ?_
    rintro e w2 ⟨rfl, b2⟩
    go_wp2_with fail
    refine (c3.out _).mono ?_
    rintro e w3 ⟨rfl, b3⟩
    go_wp2_with fail
    have hlt : w3.heap.size < (w3.alloc (Obj.cells #[Value.int IntKind.i64 a, Value.int IntKind.i64 b, Value.int IntKind.i64 a, Value.int IntKind.i64 b] 2)).heap.size := by simp
    refine (c4.out _ w3.heap.size hlt (by intro i h; match i, h with | 0, _ => simp | 1, _ => simp | 2, _ => simp | 3, _ => simp)).mono ?_
    clear hlt
    rintro e w4 ⟨rfl, b4⟩
    go_wp2_with fail
    refine (c5'.out _).mono ?_
    rintro e w5 ⟨rfl, b5⟩
    go_wp2_with fail
    refine (l.out _).mono ?_
    rintro e w6 ⟨rfl, b6⟩
    go_wp2_with fail
    go_ret
    exact ⟨rfl, andB (andB (andB (Below.alloc (andB (andB (b1) b2) b3) (andB (andB (b1) b2) b3).size _) b4) b5) b6⟩
theorem back_walk (a b : Int) (w : World) (ha : (Lit.int .i64 a).wf = true) (hb : (Lit.int .i64 b).wf = true) :
    Calls Try.prog 6 #[.int .i64 a, .int .i64 b] w fun e w' => e = .returned (.bool true) ∧ Below w.heap.size w w' :=
  back_any a b w (In64.of_wf ha) (In64.of_wf hb)

end Go.Proofs.Ytonbinbjddameaa
