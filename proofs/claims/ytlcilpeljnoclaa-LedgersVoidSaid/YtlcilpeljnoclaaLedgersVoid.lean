/-
  LedgersVoid: the walk, for every act.
-/
import Derived.Test.YtlcilpeljnoclaaPVoid
import Derived.Test.YtlcilpeljnoclaaActs
namespace Go.Proofs.Ytlcilpeljnoclaa
open Go.RowKit
set_option linter.unusedSimpArgs false
set_option linter.unusedVariables false

theorem ledC_void : ledC [] (.map none) = #[.bool false, .bool false, .bool false, .bool false, .bool false, .bool false, .bool false, .bool false, .bool false, .bool false, .bool false, .bool false, .bool false, .bool false, .bool false, .bool false, .bool false, .map none] := by
  unfold ledC
  rfl
set_option maxHeartbeats 8000000 in
set_option maxRecDepth 100000 in
theorem void_walk (x : Ac) (w : World) (hx : x.Ok) : Calls Try.prog 5 #[.agg #[.int .u8 x.k, .int .u8 x.a, .int .u8 x.b, .int .u8 x.c, .int .i64 x.n]] w fun e w' => e = .returned (.bool true) ∧ Below w.heap.size w w' := by
  obtain ⟨_, ha, hb, hc, _⟩ := hx
  go_enter Try.func5, Try.ntmps5
  go_wp2_with fail
  refine wp_loop_rounds 3 ?_
  have KX0 := Lib.hid (((Blk.new w #[.int .u8 x.k, .int .u8 x.a, .int .u8 x.b, .int .u8 x.c, .int .i64 x.n] 31).alloc (.cells #[.bool false, .bool false, .bool false, .bool false, .bool false, .bool false, .bool false, .bool false, .bool false, .bool false, .bool false, .bool false, .bool false, .bool false, .bool false, .bool false, .bool false, .map none] 65)).alloc (.cells #[.pointer none, .pointer (some ⟨w.heap.size + 1, 0, none⟩)] 24))
  have KL := (Blk.newAt (w.alloc (.cells #[.int .u8 x.k, .int .u8 x.a, .int .u8 x.b, .int .u8 x.c, .int .i64 x.n] 31)) #[.bool false, .bool false, .bool false, .bool false, .bool false, .bool false, .bool false, .bool false, .bool false, .bool false, .bool false, .bool false, .bool false, .bool false, .bool false, .bool false, .bool false, .map none] 65 (g := w.heap.size + 1) (by simp)).alloc (.cells #[.pointer none, .pointer (some ⟨w.heap.size + 1, 0, none⟩)] 24)
  have KS0 := Lib.hid (Blk.newAt ((w.alloc (.cells #[.int .u8 x.k, .int .u8 x.a, .int .u8 x.b, .int .u8 x.c, .int .i64 x.n] 31)).alloc (.cells #[.bool false, .bool false, .bool false, .bool false, .bool false, .bool false, .bool false, .bool false, .bool false, .bool false, .bool false, .bool false, .bool false, .bool false, .bool false, .bool false, .bool false, .map none] 65)) #[.pointer none, .pointer (some ⟨w.heap.size + 1, 0, none⟩)] 24 (g := w.heap.size + 2) (by simp))
  have V10 := Lib.hid (void_nil (((w.alloc (.cells #[.int .u8 x.k, .int .u8 x.a, .int .u8 x.b, .int .u8 x.c, .int .i64 x.n] 31)).alloc (.cells #[.bool false, .bool false, .bool false, .bool false, .bool false, .bool false, .bool false, .bool false, .bool false, .bool false, .bool false, .bool false, .bool false, .bool false, .bool false, .bool false, .bool false, .map none] 65)).alloc (.cells #[.pointer none, .pointer (some ⟨w.heap.size + 1, 0, none⟩)] 24)))
  have V20 := Lib.hid (void_zero (ps := []) (by rw [ledC_void]; exact KL))
  have B0 := Lib.hid ((((Below.refl w.heap.size w).alloc (Nat.le_refl _) (.cells #[.int .u8 x.k, .int .u8 x.a, .int .u8 x.b, .int .u8 x.c, .int .i64 x.n] 31)).alloc (by simp) (.cells #[.bool false, .bool false, .bool false, .bool false, .bool false, .bool false, .bool false, .bool false, .bool false, .bool false, .bool false, .bool false, .bool false, .bool false, .bool false, .bool false, .bool false, .map none] 65)).alloc (by simp; omega) (.cells #[.pointer none, .pointer (some ⟨w.heap.size + 1, 0, none⟩)] 24))
  clear KL
  generalize ((w.alloc (.cells #[.int .u8 x.k, .int .u8 x.a, .int .u8 x.b, .int .u8 x.c, .int .i64 x.n] 31)).alloc (.cells #[.bool false, .bool false, .bool false, .bool false, .bool false, .bool false, .bool false, .bool false, .bool false, .bool false, .bool false, .bool false, .bool false, .bool false, .bool false, .bool false, .bool false, .map none] 65)).alloc (.cells #[.pointer none, .pointer (some ⟨w.heap.size + 1, 0, none⟩)] 24) = W at KX0 KS0 V10 V20 B0 ⊢
  rw [rounds_succ]
  have x1_0 := KX0.out.cell 1; have x2_0 := KX0.out.cell 2; have x3_0 := KX0.out.cell 3; have x4_0 := KX0.out.cell 4
  have s0_0 := KS0.out.cell 0; have s1_0 := KS0.out.cell 1; have lx_0 := KX0.out.lt; have ls_0 := KS0.out.lt
  simp at x1_0 x2_0 x3_0 x4_0 s0_0 s1_0
  go_wp2_with fail
  clear x1_0 x2_0 x3_0 x4_0 s0_0 s1_0 lx_0 ls_0
  refine (void_line V10.out ha hb hc).mono ?_
  rintro e w1 ⟨rfl, b1⟩
  have bz1 := b1
  replace b1 := (bz1.alloc bz1.size (.cells #[.int .u8 0, .int .u8 0, .int .u8 0, .int .i64 0, .int .i64 0] 35))
  clear bz1
  have KX1 := Lib.hid (KX0.out.below b1 KX0.out.lt)
  have KS1 := Lib.hid (KS0.out.below b1 KS0.out.lt)
  have V11 := Lib.hid (V10.out.below b1)
  have V21 := Lib.hid (V20.out.below b1)
  have B1 := Lib.hid (B0.out.trans (b1.mono B0.out.size))
  clear b1
  have x1_1 := KX1.out.cell 1; have x2_1 := KX1.out.cell 2; have x3_1 := KX1.out.cell 3; have x4_1 := KX1.out.cell 4
  have s0_1 := KS1.out.cell 0; have s1_1 := KS1.out.cell 1; have lx_1 := KX1.out.lt; have ls_1 := KS1.out.lt
  simp at x1_1 x2_1 x3_1 x4_1 s0_1 s1_1
  go_wp2_with fail
  clear x1_1 x2_1 x3_1 x4_1 s0_1 s1_1 lx_1 ls_1
  refine (void_open V11.out _).mono ?_
  rintro e w2 ⟨rfl, hs2⟩
  subst hs2
  have x1_2 := KX1.out.cell 1; have x2_2 := KX1.out.cell 2; have x3_2 := KX1.out.cell 3; have x4_2 := KX1.out.cell 4
  have s0_2 := KS1.out.cell 0; have s1_2 := KS1.out.cell 1; have lx_2 := KX1.out.lt; have ls_2 := KS1.out.lt
  simp at x1_2 x2_2 x3_2 x4_2 s0_2 s1_2
  go_wp2_with fail
  clear x1_2 x2_2 x3_2 x4_2 s0_2 s1_2 lx_2 ls_2
  refine (void_trust V11.out _ ha hb hc).mono ?_
  rintro e w3 ⟨rfl, b3⟩
  have KX3 := Lib.hid (KX1.out.below b3 KX1.out.lt)
  have KS3 := Lib.hid (KS1.out.below b3 KS1.out.lt)
  have V13 := Lib.hid (V11.out.below b3)
  have V23 := Lib.hid (V21.out.below b3)
  have B3 := Lib.hid (B1.out.trans (b3.mono B1.out.size))
  clear b3
  have x1_3 := KX3.out.cell 1; have x2_3 := KX3.out.cell 2; have x3_3 := KX3.out.cell 3; have x4_3 := KX3.out.cell 4
  have s0_3 := KS3.out.cell 0; have s1_3 := KS3.out.cell 1; have lx_3 := KX3.out.lt; have ls_3 := KS3.out.lt
  simp at x1_3 x2_3 x3_3 x4_3 s0_3 s1_3
  go_wp2_with fail
  clear x1_3 x2_3 x3_3 x4_3 s0_3 s1_3 lx_3 ls_3
  refine (void_push V13.out _ _ _ _).mono ?_
  rintro e w4 ⟨rfl, hs4⟩
  subst hs4
  have x1_4 := KX3.out.cell 1; have x2_4 := KX3.out.cell 2; have x3_4 := KX3.out.cell 3; have x4_4 := KX3.out.cell 4
  have s0_4 := KS3.out.cell 0; have s1_4 := KS3.out.cell 1; have lx_4 := KX3.out.lt; have ls_4 := KS3.out.lt
  simp at x1_4 x2_4 x3_4 x4_4 s0_4 s1_4
  go_wp2_with fail
  clear x1_4 x2_4 x3_4 x4_4 s0_4 s1_4 lx_4 ls_4
  refine (void_forgive V13.out _ ha hb hc).mono ?_
  rintro e w5 ⟨rfl, b5⟩
  have KX5 := Lib.hid (KX3.out.below b5 KX3.out.lt)
  have KS5 := Lib.hid (KS3.out.below b5 KS3.out.lt)
  have V15 := Lib.hid (V13.out.below b5)
  have V25 := Lib.hid (V23.out.below b5)
  have B5 := Lib.hid (B3.out.trans (b5.mono B3.out.size))
  clear b5
  have x1_5 := KX5.out.cell 1; have x2_5 := KX5.out.cell 2; have x3_5 := KX5.out.cell 3; have x4_5 := KX5.out.cell 4
  have s0_5 := KS5.out.cell 0; have s1_5 := KS5.out.cell 1; have lx_5 := KX5.out.lt; have ls_5 := KS5.out.lt
  simp at x1_5 x2_5 x3_5 x4_5 s0_5 s1_5
  go_wp2_with fail
  clear x1_5 x2_5 x3_5 x4_5 s0_5 s1_5 lx_5 ls_5
  refine (void_has V15.out _).mono ?_
  rintro e w6 ⟨rfl, hs6⟩
  subst hs6
  have x1_6 := KX5.out.cell 1; have x2_6 := KX5.out.cell 2; have x3_6 := KX5.out.cell 3; have x4_6 := KX5.out.cell 4
  have s0_6 := KS5.out.cell 0; have s1_6 := KS5.out.cell 1; have lx_6 := KX5.out.lt; have ls_6 := KS5.out.lt
  simp at x1_6 x2_6 x3_6 x4_6 s0_6 s1_6
  go_wp2_with fail
  clear x1_6 x2_6 x3_6 x4_6 s0_6 s1_6 lx_6 ls_6
  refine (void_room V15.out ha hb hc).mono ?_
  rintro e w7 ⟨rfl, b7⟩
  have KX7 := Lib.hid (KX5.out.below b7 KX5.out.lt)
  have KS7 := Lib.hid (KS5.out.below b7 KS5.out.lt)
  have V17 := Lib.hid (V15.out.below b7)
  have V27 := Lib.hid (V25.out.below b7)
  have B7 := Lib.hid (B5.out.trans (b7.mono B5.out.size))
  clear b7
  have x1_7 := KX7.out.cell 1; have x2_7 := KX7.out.cell 2; have x3_7 := KX7.out.cell 3; have x4_7 := KX7.out.cell 4
  have s0_7 := KS7.out.cell 0; have s1_7 := KS7.out.cell 1; have lx_7 := KX7.out.lt; have ls_7 := KS7.out.lt
  simp at x1_7 x2_7 x3_7 x4_7 s0_7 s1_7
  go_wp2_with fail
  clear x1_7 x2_7 x3_7 x4_7 s0_7 s1_7 lx_7 ls_7
  refine (void_pos V17.out _ _).mono ?_
  rintro e w8 ⟨rfl, b8⟩
  have KX8 := Lib.hid (KX7.out.below b8 KX7.out.lt)
  have KS8 := Lib.hid (KS7.out.below b8 KS7.out.lt)
  have V18 := Lib.hid (V17.out.below b8)
  have V28 := Lib.hid (V27.out.below b8)
  have B8 := Lib.hid (B7.out.trans (b8.mono B7.out.size))
  clear b8
  have x1_8 := KX8.out.cell 1; have x2_8 := KX8.out.cell 2; have x3_8 := KX8.out.cell 3; have x4_8 := KX8.out.cell 4
  have s0_8 := KS8.out.cell 0; have s1_8 := KS8.out.cell 1; have lx_8 := KX8.out.lt; have ls_8 := KS8.out.lt
  simp at x1_8 x2_8 x3_8 x4_8 s0_8 s1_8
  go_wp2_with fail
  clear x1_8 x2_8 x3_8 x4_8 s0_8 s1_8 lx_8 ls_8
  refine (void_tot V18.out _).mono ?_
  rintro e w9 ⟨rfl, b9⟩
  have KX9 := Lib.hid (KX8.out.below b9 KX8.out.lt)
  have KS9 := Lib.hid (KS8.out.below b9 KS8.out.lt)
  have V19 := Lib.hid (V18.out.below b9)
  have V29 := Lib.hid (V28.out.below b9)
  have B9 := Lib.hid (B8.out.trans (b9.mono B8.out.size))
  clear b9
  have x1_9 := KX9.out.cell 1; have x2_9 := KX9.out.cell 2; have x3_9 := KX9.out.cell 3; have x4_9 := KX9.out.cell 4
  have s0_9 := KS9.out.cell 0; have s1_9 := KS9.out.cell 1; have lx_9 := KX9.out.lt; have ls_9 := KS9.out.lt
  simp at x1_9 x2_9 x3_9 x4_9 s0_9 s1_9
  go_wp2_with fail
  clear x1_9 x2_9 x3_9 x4_9 s0_9 s1_9 lx_9 ls_9
  refine (void_parties V19.out).mono ?_
  rintro e w10 ⟨rfl, hs10⟩
  subst hs10
  have x1_10 := KX9.out.cell 1; have x2_10 := KX9.out.cell 2; have x3_10 := KX9.out.cell 3; have x4_10 := KX9.out.cell 4
  have s0_10 := KS9.out.cell 0; have s1_10 := KS9.out.cell 1; have lx_10 := KX9.out.lt; have ls_10 := KS9.out.lt
  simp at x1_10 x2_10 x3_10 x4_10 s0_10 s1_10
  go_wp2_with fail
  clear x1_10 x2_10 x3_10 x4_10 s0_10 s1_10 lx_10 ls_10
  refine (void_lines V19.out).mono ?_
  rintro e w11 ⟨rfl, b11⟩
  have KX11 := Lib.hid (KX9.out.below b11 KX9.out.lt)
  have KS11 := Lib.hid (KS9.out.below b11 KS9.out.lt)
  have V111 := Lib.hid (V19.out.below b11)
  have V211 := Lib.hid (V29.out.below b11)
  have B11 := Lib.hid (B9.out.trans (b11.mono B9.out.size))
  clear b11
  have x1_11 := KX11.out.cell 1; have x2_11 := KX11.out.cell 2; have x3_11 := KX11.out.cell 3; have x4_11 := KX11.out.cell 4
  have s0_11 := KS11.out.cell 0; have s1_11 := KS11.out.cell 1; have lx_11 := KX11.out.lt; have ls_11 := KS11.out.lt
  simp at x1_11 x2_11 x3_11 x4_11 s0_11 s1_11
  go_wp2_with fail
  clear x1_11 x2_11 x3_11 x4_11 s0_11 s1_11 lx_11 ls_11
  refine (void_copy V111.out).mono ?_
  rintro e w12 ⟨rfl, hs12⟩
  subst hs12
  have x1_12 := KX11.out.cell 1; have x2_12 := KX11.out.cell 2; have x3_12 := KX11.out.cell 3; have x4_12 := KX11.out.cell 4
  have s0_12 := KS11.out.cell 0; have s1_12 := KS11.out.cell 1; have lx_12 := KX11.out.lt; have ls_12 := KS11.out.lt
  simp at x1_12 x2_12 x3_12 x4_12 s0_12 s1_12
  go_wp2_with fail
  clear x1_12 x2_12 x3_12 x4_12 s0_12 s1_12 lx_12 ls_12
  rw [rounds_succ]
  have x1_12 := KX11.out.cell 1; have x2_12 := KX11.out.cell 2; have x3_12 := KX11.out.cell 3; have x4_12 := KX11.out.cell 4
  have s0_12 := KS11.out.cell 0; have s1_12 := KS11.out.cell 1; have lx_12 := KX11.out.lt; have ls_12 := KS11.out.lt
  simp at x1_12 x2_12 x3_12 x4_12 s0_12 s1_12
  go_wp2_with fail
  clear x1_12 x2_12 x3_12 x4_12 s0_12 s1_12 lx_12 ls_12
  refine (void_line V211.out ha hb hc).mono ?_
  rintro e w13 ⟨rfl, b13⟩
  have bz13 := b13
  replace b13 := (bz13.alloc bz13.size (.cells #[.int .u8 0, .int .u8 0, .int .u8 0, .int .i64 0, .int .i64 0] 35))
  clear bz13
  have KX13 := Lib.hid (KX11.out.below b13 KX11.out.lt)
  have KS13 := Lib.hid (KS11.out.below b13 KS11.out.lt)
  have V113 := Lib.hid (V111.out.below b13)
  have V213 := Lib.hid (V211.out.below b13)
  have B13 := Lib.hid (B11.out.trans (b13.mono B11.out.size))
  clear b13
  have x1_13 := KX13.out.cell 1; have x2_13 := KX13.out.cell 2; have x3_13 := KX13.out.cell 3; have x4_13 := KX13.out.cell 4
  have s0_13 := KS13.out.cell 0; have s1_13 := KS13.out.cell 1; have lx_13 := KX13.out.lt; have ls_13 := KS13.out.lt
  simp at x1_13 x2_13 x3_13 x4_13 s0_13 s1_13
  go_wp2_with fail
  clear x1_13 x2_13 x3_13 x4_13 s0_13 s1_13 lx_13 ls_13
  refine (void_open V213.out _).mono ?_
  rintro e w14 ⟨rfl, hs14⟩
  subst hs14
  have x1_14 := KX13.out.cell 1; have x2_14 := KX13.out.cell 2; have x3_14 := KX13.out.cell 3; have x4_14 := KX13.out.cell 4
  have s0_14 := KS13.out.cell 0; have s1_14 := KS13.out.cell 1; have lx_14 := KX13.out.lt; have ls_14 := KS13.out.lt
  simp at x1_14 x2_14 x3_14 x4_14 s0_14 s1_14
  go_wp2_with fail
  clear x1_14 x2_14 x3_14 x4_14 s0_14 s1_14 lx_14 ls_14
  refine (void_trust V213.out _ ha hb hc).mono ?_
  rintro e w15 ⟨rfl, b15⟩
  have KX15 := Lib.hid (KX13.out.below b15 KX13.out.lt)
  have KS15 := Lib.hid (KS13.out.below b15 KS13.out.lt)
  have V115 := Lib.hid (V113.out.below b15)
  have V215 := Lib.hid (V213.out.below b15)
  have B15 := Lib.hid (B13.out.trans (b15.mono B13.out.size))
  clear b15
  have x1_15 := KX15.out.cell 1; have x2_15 := KX15.out.cell 2; have x3_15 := KX15.out.cell 3; have x4_15 := KX15.out.cell 4
  have s0_15 := KS15.out.cell 0; have s1_15 := KS15.out.cell 1; have lx_15 := KX15.out.lt; have ls_15 := KS15.out.lt
  simp at x1_15 x2_15 x3_15 x4_15 s0_15 s1_15
  go_wp2_with fail
  clear x1_15 x2_15 x3_15 x4_15 s0_15 s1_15 lx_15 ls_15
  refine (void_push V215.out _ _ _ _).mono ?_
  rintro e w16 ⟨rfl, hs16⟩
  subst hs16
  have x1_16 := KX15.out.cell 1; have x2_16 := KX15.out.cell 2; have x3_16 := KX15.out.cell 3; have x4_16 := KX15.out.cell 4
  have s0_16 := KS15.out.cell 0; have s1_16 := KS15.out.cell 1; have lx_16 := KX15.out.lt; have ls_16 := KS15.out.lt
  simp at x1_16 x2_16 x3_16 x4_16 s0_16 s1_16
  go_wp2_with fail
  clear x1_16 x2_16 x3_16 x4_16 s0_16 s1_16 lx_16 ls_16
  refine (void_forgive V215.out _ ha hb hc).mono ?_
  rintro e w17 ⟨rfl, b17⟩
  have KX17 := Lib.hid (KX15.out.below b17 KX15.out.lt)
  have KS17 := Lib.hid (KS15.out.below b17 KS15.out.lt)
  have V117 := Lib.hid (V115.out.below b17)
  have V217 := Lib.hid (V215.out.below b17)
  have B17 := Lib.hid (B15.out.trans (b17.mono B15.out.size))
  clear b17
  have x1_17 := KX17.out.cell 1; have x2_17 := KX17.out.cell 2; have x3_17 := KX17.out.cell 3; have x4_17 := KX17.out.cell 4
  have s0_17 := KS17.out.cell 0; have s1_17 := KS17.out.cell 1; have lx_17 := KX17.out.lt; have ls_17 := KS17.out.lt
  simp at x1_17 x2_17 x3_17 x4_17 s0_17 s1_17
  go_wp2_with fail
  clear x1_17 x2_17 x3_17 x4_17 s0_17 s1_17 lx_17 ls_17
  refine (void_has V217.out _).mono ?_
  rintro e w18 ⟨rfl, hs18⟩
  subst hs18
  have x1_18 := KX17.out.cell 1; have x2_18 := KX17.out.cell 2; have x3_18 := KX17.out.cell 3; have x4_18 := KX17.out.cell 4
  have s0_18 := KS17.out.cell 0; have s1_18 := KS17.out.cell 1; have lx_18 := KX17.out.lt; have ls_18 := KS17.out.lt
  simp at x1_18 x2_18 x3_18 x4_18 s0_18 s1_18
  go_wp2_with fail
  clear x1_18 x2_18 x3_18 x4_18 s0_18 s1_18 lx_18 ls_18
  refine (void_room V217.out ha hb hc).mono ?_
  rintro e w19 ⟨rfl, b19⟩
  have KX19 := Lib.hid (KX17.out.below b19 KX17.out.lt)
  have KS19 := Lib.hid (KS17.out.below b19 KS17.out.lt)
  have V119 := Lib.hid (V117.out.below b19)
  have V219 := Lib.hid (V217.out.below b19)
  have B19 := Lib.hid (B17.out.trans (b19.mono B17.out.size))
  clear b19
  have x1_19 := KX19.out.cell 1; have x2_19 := KX19.out.cell 2; have x3_19 := KX19.out.cell 3; have x4_19 := KX19.out.cell 4
  have s0_19 := KS19.out.cell 0; have s1_19 := KS19.out.cell 1; have lx_19 := KX19.out.lt; have ls_19 := KS19.out.lt
  simp at x1_19 x2_19 x3_19 x4_19 s0_19 s1_19
  go_wp2_with fail
  clear x1_19 x2_19 x3_19 x4_19 s0_19 s1_19 lx_19 ls_19
  refine (void_pos V219.out _ _).mono ?_
  rintro e w20 ⟨rfl, b20⟩
  have KX20 := Lib.hid (KX19.out.below b20 KX19.out.lt)
  have KS20 := Lib.hid (KS19.out.below b20 KS19.out.lt)
  have V120 := Lib.hid (V119.out.below b20)
  have V220 := Lib.hid (V219.out.below b20)
  have B20 := Lib.hid (B19.out.trans (b20.mono B19.out.size))
  clear b20
  have x1_20 := KX20.out.cell 1; have x2_20 := KX20.out.cell 2; have x3_20 := KX20.out.cell 3; have x4_20 := KX20.out.cell 4
  have s0_20 := KS20.out.cell 0; have s1_20 := KS20.out.cell 1; have lx_20 := KX20.out.lt; have ls_20 := KS20.out.lt
  simp at x1_20 x2_20 x3_20 x4_20 s0_20 s1_20
  go_wp2_with fail
  clear x1_20 x2_20 x3_20 x4_20 s0_20 s1_20 lx_20 ls_20
  refine (void_tot V220.out _).mono ?_
  rintro e w21 ⟨rfl, b21⟩
  have KX21 := Lib.hid (KX20.out.below b21 KX20.out.lt)
  have KS21 := Lib.hid (KS20.out.below b21 KS20.out.lt)
  have V121 := Lib.hid (V120.out.below b21)
  have V221 := Lib.hid (V220.out.below b21)
  have B21 := Lib.hid (B20.out.trans (b21.mono B20.out.size))
  clear b21
  have x1_21 := KX21.out.cell 1; have x2_21 := KX21.out.cell 2; have x3_21 := KX21.out.cell 3; have x4_21 := KX21.out.cell 4
  have s0_21 := KS21.out.cell 0; have s1_21 := KS21.out.cell 1; have lx_21 := KX21.out.lt; have ls_21 := KS21.out.lt
  simp at x1_21 x2_21 x3_21 x4_21 s0_21 s1_21
  go_wp2_with fail
  clear x1_21 x2_21 x3_21 x4_21 s0_21 s1_21 lx_21 ls_21
  refine (void_parties V221.out).mono ?_
  rintro e w22 ⟨rfl, hs22⟩
  subst hs22
  have x1_22 := KX21.out.cell 1; have x2_22 := KX21.out.cell 2; have x3_22 := KX21.out.cell 3; have x4_22 := KX21.out.cell 4
  have s0_22 := KS21.out.cell 0; have s1_22 := KS21.out.cell 1; have lx_22 := KX21.out.lt; have ls_22 := KS21.out.lt
  simp at x1_22 x2_22 x3_22 x4_22 s0_22 s1_22
  go_wp2_with fail
  clear x1_22 x2_22 x3_22 x4_22 s0_22 s1_22 lx_22 ls_22
  refine (void_lines V221.out).mono ?_
  rintro e w23 ⟨rfl, b23⟩
  have KX23 := Lib.hid (KX21.out.below b23 KX21.out.lt)
  have KS23 := Lib.hid (KS21.out.below b23 KS21.out.lt)
  have V123 := Lib.hid (V121.out.below b23)
  have V223 := Lib.hid (V221.out.below b23)
  have B23 := Lib.hid (B21.out.trans (b23.mono B21.out.size))
  clear b23
  have x1_23 := KX23.out.cell 1; have x2_23 := KX23.out.cell 2; have x3_23 := KX23.out.cell 3; have x4_23 := KX23.out.cell 4
  have s0_23 := KS23.out.cell 0; have s1_23 := KS23.out.cell 1; have lx_23 := KX23.out.lt; have ls_23 := KS23.out.lt
  simp at x1_23 x2_23 x3_23 x4_23 s0_23 s1_23
  go_wp2_with fail
  clear x1_23 x2_23 x3_23 x4_23 s0_23 s1_23 lx_23 ls_23
  refine (void_copy V223.out).mono ?_
  rintro e w24 ⟨rfl, hs24⟩
  subst hs24
  have x1_24 := KX23.out.cell 1; have x2_24 := KX23.out.cell 2; have x3_24 := KX23.out.cell 3; have x4_24 := KX23.out.cell 4
  have s0_24 := KS23.out.cell 0; have s1_24 := KS23.out.cell 1; have lx_24 := KX23.out.lt; have ls_24 := KS23.out.lt
  simp at x1_24 x2_24 x3_24 x4_24 s0_24 s1_24
  go_wp2_with fail
  clear x1_24 x2_24 x3_24 x4_24 s0_24 s1_24 lx_24 ls_24
  rw [rounds_succ]
  have x1_24 := KX23.out.cell 1; have x2_24 := KX23.out.cell 2; have x3_24 := KX23.out.cell 3; have x4_24 := KX23.out.cell 4
  have s0_24 := KS23.out.cell 0; have s1_24 := KS23.out.cell 1; have lx_24 := KX23.out.lt; have ls_24 := KS23.out.lt
  simp at x1_24 x2_24 x3_24 x4_24 s0_24 s1_24
  go_wp2_with fail
  clear x1_24 x2_24 x3_24 x4_24 s0_24 s1_24 lx_24 ls_24
  refine (lives03_any _).mono ?_
  rintro e w25 ⟨rfl, b25⟩
  have KX25 := Lib.hid (KX23.out.below b25 KX23.out.lt)
  have KS25 := Lib.hid (KS23.out.below b25 KS23.out.lt)
  have V125 := Lib.hid (V123.out.below b25)
  have V225 := Lib.hid (V223.out.below b25)
  have B25 := Lib.hid (B23.out.trans (b25.mono B23.out.size))
  clear b25
  have x1_25 := KX25.out.cell 1; have x2_25 := KX25.out.cell 2; have x3_25 := KX25.out.cell 3; have x4_25 := KX25.out.cell 4
  have s0_25 := KS25.out.cell 0; have s1_25 := KS25.out.cell 1; have lx_25 := KX25.out.lt; have ls_25 := KS25.out.lt
  simp at x1_25 x2_25 x3_25 x4_25 s0_25 s1_25
  go_wp2_with fail
  go_ret
  exact ⟨rfl, B25.out⟩

end Go.Proofs.Ytlcilpeljnoclaa
