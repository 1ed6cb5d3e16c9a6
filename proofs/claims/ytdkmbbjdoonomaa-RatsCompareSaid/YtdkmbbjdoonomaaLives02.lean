/-
  Layer 2's statements ask the chapter's examples ('lives'): they are answered as they should be.
-/
import Derived.Test.YtdkmbbjdoonomaaRats4
namespace Go.Proofs.Ytdkmbbjdoonomaa
open Go.RowKit
set_option linter.unusedSimpArgs false
set_option linter.unusedVariables false

set_option maxHeartbeats 8000000 in
set_option maxRecDepth 100000 in
theorem lives02_any (w : World) :
    Calls Try.prog 15 #[] w fun e w' => e = .returned (.bool true) ∧ Below w.heap.size w w' := by
  have o1 := Lib.hid (fun w => of_rat 6 4 w (by decide) (by decide))
  have o2 := Lib.hid (fun w => of_rat 0 1 w (by decide) (by decide))
  have o3 := Lib.hid (fun w => of_rat 1099511627777 1 w (by decide) (by decide))
  have o4 := Lib.hid (fun w => of_rat 2199023255552 2 w (by decide) (by decide))
  have c5 := Lib.hid (fun w => rdown_rat 5 3 2 w (by decide) (by decide) (by decide))
  have c6 := Lib.hid (fun w => rup_rat 5 3 2 w (by decide) (by decide) (by decide))
  have m1 := Lib.hid (fun w => may_any 6 4 w (by decide) (by decide))
  have m2 := Lib.hid (fun w => may_any 3 2 w (by decide) (by decide))
  have m3 := Lib.hid (fun w => may_any 0 1 w (by decide) (by decide))
  have cc := Lib.hid (fun w => compare_any 1 3 2 5 w (by decide) (by decide) (by decide) (by decide))
  have i1 := Lib.hid (fun w => inverse_any 3 2 w (by decide) (by decide))
  have i2 := Lib.hid (fun w => inverse_any 6 4 w (by decide) (by decide))
  have f1 := Lib.hid (fun w => fits_any 7 3 2 w (by decide) (by decide) (by decide))
  have f2 := Lib.hid (fun w => fits_any (-1) 3 2 w (by decide) (by decide) (by decide))
  have f3 := Lib.hid (fun w => fits_any 9223372036854775807 1 1 w (by decide) (by decide) (by decide))
  rw [show ofV 6 4 = .tuple #[.agg #[.int .i64 3, .int .i64 2], .int .i64 0] by kernel_rfl] at o1
  rw [show ofV 0 1 = .tuple #[.agg #[.int .i64 0, .int .i64 0], .int .i64 1] by kernel_rfl] at o2
  rw [show ofV 1099511627777 1 = .tuple #[.agg #[.int .i64 0, .int .i64 0], .int .i64 10] by kernel_rfl] at o3
  rw [show ofV 2199023255552 2 = .tuple #[.agg #[.int .i64 1099511627776, .int .i64 1], .int .i64 0] by kernel_rfl] at o4
  rw [show downV2 5 3 2 = .tuple #[.int .i64 7, .int .i64 0] by kernel_rfl] at c5
  rw [show upV2 5 3 2 = .tuple #[.int .i64 8, .int .i64 0] by kernel_rfl] at c6
  rw [show mayB 6 4 = false by kernel_rfl] at m1
  rw [show mayB 3 2 = true by kernel_rfl] at m2
  rw [show mayB 0 1 = false by kernel_rfl] at m3
  rw [show cmpR 1 3 2 5 = -1 by kernel_rfl] at cc
  rw [show alD 3 2 = 2 by kernel_rfl, show alN 3 2 = 3 by kernel_rfl] at i1
  rw [show alD 6 4 = 0 by kernel_rfl, show alN 6 4 = 0 by kernel_rfl] at i2
  rw [show fitN 7 3 2 = 4 by kernel_rfl] at f1
  rw [show fitN (-1) 3 2 = 0 by kernel_rfl] at f2
  rw [show fitN 9223372036854775807 1 1 = 1099511627776 by kernel_rfl] at f3
  have KH := Lib.hid ((Blk.new w #[.int .i64 3, .int .i64 2] 23).alloc (.cells #[.int .i64 6, .int .i64 4] 23))
  have KR := Lib.hid (Blk.newAt (w.alloc (.cells #[.int .i64 3, .int .i64 2] 23)) #[.int .i64 6, .int .i64 4] 23 (g := w.heap.size + 1) (by simp))
  have B0 : Hid (Below w.heap.size w _) := Lib.hid (((Below.refl w.heap.size w).alloc (Nat.le_refl _) (.cells #[.int .i64 3, .int .i64 2] 23)).alloc (by simp) (.cells #[.int .i64 6, .int .i64 4] 23))
  go_enter Try.func15, Try.ntmps15
  go_wp2_with fail
  refine (o1.out _).mono ?_
  rintro e w1 ⟨rfl, b1⟩
  have KH1 := Lib.hid ((KH.out.below b1 KH.out.lt).alloc (.cells #[.int .i64 3, .int .i64 2] 23))
  have KR1 := Lib.hid ((KR.out.below b1 KR.out.lt).alloc (.cells #[.int .i64 3, .int .i64 2] 23))
  have KT1 := Lib.hid (Blk.new w1 #[.int .i64 3, .int .i64 2] 23)
  have B1 := Lib.hid ((B0.out.trans (b1.mono B0.out.size)).alloc (B0.out.trans (b1.mono B0.out.size)).size (.cells #[.int .i64 3, .int .i64 2] 23))
  clear b1
  go_wp2_with fail
  refine (o2.out _).mono ?_
  rintro e w2 ⟨rfl, b2⟩
  have KH2 := Lib.hid ((KH1.out.below b2 KH1.out.lt).alloc (.cells #[.int .i64 0, .int .i64 0] 23))
  have KR2 := Lib.hid ((KR1.out.below b2 KR1.out.lt).alloc (.cells #[.int .i64 0, .int .i64 0] 23))
  have KT2 := Lib.hid ((KT1.out.below b2 KT1.out.lt).alloc (.cells #[.int .i64 0, .int .i64 0] 23))
  have B2 := Lib.hid ((B1.out.trans (b2.mono B1.out.size)).alloc (B1.out.trans (b2.mono B1.out.size)).size (.cells #[.int .i64 0, .int .i64 0] 23))
  clear b2
  go_wp2_with fail
  refine (o3.out _).mono ?_
  rintro e w3 ⟨rfl, b3⟩
  have KH3 := Lib.hid ((KH2.out.below b3 KH2.out.lt).alloc (.cells #[.int .i64 0, .int .i64 0] 23))
  have KR3 := Lib.hid ((KR2.out.below b3 KR2.out.lt).alloc (.cells #[.int .i64 0, .int .i64 0] 23))
  have KT3 := Lib.hid ((KT2.out.below b3 KT2.out.lt).alloc (.cells #[.int .i64 0, .int .i64 0] 23))
  have B3 := Lib.hid ((B2.out.trans (b3.mono B2.out.size)).alloc (B2.out.trans (b3.mono B2.out.size)).size (.cells #[.int .i64 0, .int .i64 0] 23))
  clear b3
  go_wp2_with fail
  refine (o4.out _).mono ?_
  rintro e w4 ⟨rfl, b4⟩
  have KH4 := Lib.hid ((KH3.out.below b4 KH3.out.lt).alloc (.cells #[.int .i64 1099511627776, .int .i64 1] 23))
  have KR4 := Lib.hid ((KR3.out.below b4 KR3.out.lt).alloc (.cells #[.int .i64 1099511627776, .int .i64 1] 23))
  have KT4 := Lib.hid ((KT3.out.below b4 KT3.out.lt).alloc (.cells #[.int .i64 1099511627776, .int .i64 1] 23))
  have KN4 := Lib.hid (Blk.new w4 #[.int .i64 1099511627776, .int .i64 1] 23)
  have B4 := Lib.hid ((B3.out.trans (b4.mono B3.out.size)).alloc (B3.out.trans (b4.mono B3.out.size)).size (.cells #[.int .i64 1099511627776, .int .i64 1] 23))
  clear b4
  have dh0 := KH4.out.cell 0; have dh1 := KH4.out.cell 1
  simp at dh0 dh1
  go_wp2_with fail
  refine (c5.out _).mono ?_
  rintro e w5 ⟨rfl, b5⟩
  have KH5 := Lib.hid (KH4.out.below b5 KH4.out.lt)
  have KR5 := Lib.hid (KR4.out.below b5 KR4.out.lt)
  have KT5 := Lib.hid (KT4.out.below b5 KT4.out.lt)
  have KN5 := Lib.hid (KN4.out.below b5 KN4.out.lt)
  have B5 := Lib.hid (B4.out.trans (b5.mono B4.out.size))
  clear b5
  have dh0 := KH5.out.cell 0; have dh1 := KH5.out.cell 1
  simp at dh0 dh1
  go_wp2_with fail
  refine (c6.out _).mono ?_
  rintro e w6 ⟨rfl, b6⟩
  have KH6 := Lib.hid (KH5.out.below b6 KH5.out.lt)
  have KR6 := Lib.hid (KR5.out.below b6 KR5.out.lt)
  have KT6 := Lib.hid (KT5.out.below b6 KT5.out.lt)
  have KN6 := Lib.hid (KN5.out.below b6 KN5.out.lt)
  have B6 := Lib.hid (B5.out.trans (b6.mono B5.out.size))
  clear b6
  have dh0 := KH6.out.cell 0; have dh1 := KH6.out.cell 1
  simp at dh0 dh1
  have dr0 := KR6.out.cell 0; have dr1 := KR6.out.cell 1
  simp at dr0 dr1
  have dt0 := KT6.out.cell 0; have dt1 := KT6.out.cell 1
  simp at dt0 dt1
  have dn0 := KN6.out.cell 0; have dn1 := KN6.out.cell 1
  simp at dn0 dn1
  go_wp2_with fail
  refine (m1.out _).mono ?_
  rintro e w7 ⟨rfl, b7⟩
  have KH7 := Lib.hid (KH6.out.below b7 KH6.out.lt)
  have KR7 := Lib.hid (KR6.out.below b7 KR6.out.lt)
  have B7 := Lib.hid (B6.out.trans (b7.mono B6.out.size))
  clear b7
  have dh0 := KH7.out.cell 0; have dh1 := KH7.out.cell 1
  simp at dh0 dh1
  go_wp2_with fail
  refine (m2.out _).mono ?_
  rintro e w8 ⟨rfl, b8⟩
  have KH8 := Lib.hid (KH7.out.below b8 KH7.out.lt)
  have KR8 := Lib.hid (KR7.out.below b8 KR7.out.lt)
  have B8 := Lib.hid (B7.out.trans (b8.mono B7.out.size))
  clear b8
  go_wp2_with fail
  refine (m3.out _).mono ?_
  rintro e w9 ⟨rfl, b9⟩
  have KH9 := Lib.hid (KH8.out.below b9 KH8.out.lt)
  have KR9 := Lib.hid (KR8.out.below b9 KR8.out.lt)
  have B9 := Lib.hid (B8.out.trans (b9.mono B8.out.size))
  clear b9
  go_wp2_with fail
  refine (cc.out _).mono ?_
  rintro e w10 ⟨rfl, b10⟩
  have KH10 := Lib.hid (KH9.out.below b10 KH9.out.lt)
  have KR10 := Lib.hid (KR9.out.below b10 KR9.out.lt)
  have B10 := Lib.hid (B9.out.trans (b10.mono B9.out.size))
  clear b10
  have dh0 := KH10.out.cell 0; have dh1 := KH10.out.cell 1
  simp at dh0 dh1
  go_wp2_with fail
  refine (i1.out _).mono ?_
  rintro e w11 ⟨rfl, b11⟩
  have KH11 := Lib.hid (KH10.out.below b11 KH10.out.lt)
  have KR11 := Lib.hid (KR10.out.below b11 KR10.out.lt)
  have B11 := Lib.hid (B10.out.trans (b11.mono B10.out.size))
  clear b11
  have dr0 := KR11.out.cell 0; have dr1 := KR11.out.cell 1
  simp at dr0 dr1
  go_wp2_with fail
  refine (i2.out _).mono ?_
  rintro e w12 ⟨rfl, b12⟩
  have KH12 := Lib.hid (KH11.out.below b12 KH11.out.lt)
  have KR12 := Lib.hid (KR11.out.below b12 KR11.out.lt)
  have B12 := Lib.hid (B11.out.trans (b12.mono B11.out.size))
  clear b12
  have dh0 := KH12.out.cell 0; have dh1 := KH12.out.cell 1
  simp at dh0 dh1
  go_wp2_with fail
  refine (f1.out _).mono ?_
  rintro e w13 ⟨rfl, b13⟩
  have KH13 := Lib.hid (KH12.out.below b13 KH12.out.lt)
  have KR13 := Lib.hid (KR12.out.below b13 KR12.out.lt)
  have B13 := Lib.hid (B12.out.trans (b13.mono B12.out.size))
  clear b13
  have dh0 := KH13.out.cell 0; have dh1 := KH13.out.cell 1
  simp at dh0 dh1
  go_wp2_with fail
  refine (f2.out _).mono ?_
  rintro e w14 ⟨rfl, b14⟩
  have KH14 := Lib.hid (KH13.out.below b14 KH13.out.lt)
  have KR14 := Lib.hid (KR13.out.below b14 KR13.out.lt)
  have B14 := Lib.hid (B13.out.trans (b14.mono B13.out.size))
  clear b14
  go_wp2_with fail
  refine (f3.out _).mono ?_
  rintro e w15 ⟨rfl, b15⟩
  have KH15 := Lib.hid (KH14.out.below b15 KH14.out.lt)
  have KR15 := Lib.hid (KR14.out.below b15 KR14.out.lt)
  have B15 := Lib.hid (B14.out.trans (b15.mono B14.out.size))
  clear b15
  go_wp2_with fail
  go_ret
  exact ⟨rfl, B15.out⟩

end Go.Proofs.Ytdkmbbjdoonomaa
