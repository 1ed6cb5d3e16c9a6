/-
  BooksBest: its regions that draw their order.
-/
import Derived.Test.YtdbdeodcldogmaaPB
import Derived.Test.YtdbdeodcldogmaaRegNo
namespace Go.Proofs.Ytdbdeodcldogmaa
open Go.RowKit
set_option linter.unusedSimpArgs false
set_option linter.unusedVariables false

set_option maxHeartbeats 4000000 in
set_option maxRecDepth 100000 in
theorem bbest_11a {W : World} {n cap g X0 : Nat} {i N : Int} {ao : Option Addr} {x : Of} (c0 : decide (0 < i) = false) (KX : Hid (Blk W X0 #[.int .u64 x.se, .int .u8 x.ow, .int .u8 x.sl, .int .u8 x.bu, .int .i64 x.lf, .int .i64 x.nu, .int .i64 x.de] 39)) (HN : Hid (∀ w', Below W.heap.size W w' → Calls Try.prog 33 #[.pointer (some ⟨g, 0, none⟩)] w' fun e w'' => e = .returned (.int .u64 N) ∧ Below w'.heap.size w' w'')) (HM : Hid (∀ w', Calls Try.prog 35 #[.agg #[.int .i64 x.nu, .int .i64 x.de]] w' fun e w'' => e = .returned (.bool true) ∧ Below w'.heap.size w' w'')) (c2 : decide (N ≤ x.se) = false) (c3 : decide (x.lf < 1) = false) (c4 : (x.sl == x.bu) = false) {Q : Exit → Act → World → Prop} {c0 c1 c2 c3 c4 c5 c6 c9 c10 c13 c14 c15 c16 c17 c18 c19 c20 c21 c22 c23 c24 c25 c26 c27 c28 c29 c30 c31 c32 c33 c34 c35 c36 c37 c38 c39 c40 c41 c42 c43 c44 c45 c46 c47 c48 c49 c50 c51 c52 c53 c54 c55 c56 c57 c58 c59 c60 c61 c62 c63 c64 c65 c66 c67 c68 c69 c70 c71 c72 c73 c74 c75 c76 c77 c78 c79 c80 c81 c82 c83 c84 c85 c86 c87 c88 c89 c90 c91 c92 c93 c94 c95 c96 c97 c98 c99 c100 c101 c102 c103 c104 c105 c106 c107 c108 c109 c110 c111 c112 c113 c114 c115 c116 c117 c118 c119 c120 c121 c122 c123 c124 c125 c126 c127 c128 c129 c130 c131 c132 c133 c134 c135 c136 c137 c138 c139 c140 c141 c142 c143 c144 c145 c146 c147 c148 c149 c150 c151 c152 c153 c154 c155 c156 c157 c158 c159 c160 c161 c162 c163 c164 : Value}
    (hq : ∀ w6, (fun w' => Below W.heap.size W w') w6 → Q .normal ⟨#[c0, c1, c2, c3, c4, c5, c6, (.pointer (some ⟨g, 0, none⟩)), (.slice ao n cap), c9, c10, (.int .i64 i), (.pointer (some ⟨X0, 0, none⟩)), c13, c14, c15, c16, c17, c18, c19, c20, c21, c22, c23, c24, c25, c26, c27, c28, c29, c30, c31, c32, c33, c34, c35, c36, c37, c38, (.int .i64 i), (.bool false), (.bool false), undef, undef, undef, undef, undef, undef, undef, undef, undef, (.bool false), (.bool false), (.pointer (some ⟨X0, 0, none⟩)), (.int .u64 x.se), (.pointer (some ⟨g, 0, none⟩)), (.int .u64 N), (.bool false), (.bool false), (.bool false), (.pointer (some ⟨X0, 4, none⟩)), (.int .i64 x.lf), (.bool false), (.bool false), (.bool false), (.pointer (some ⟨X0, 2, none⟩)), (.int .u8 x.sl), (.pointer (some ⟨X0, 3, none⟩)), (.int .u8 x.bu), (.bool false), (.bool false), (.bool false), (.pointer (some ⟨X0, 5, none⟩)), (.agg #[.int .i64 x.nu, .int .i64 x.de]), (.bool true), (.bool false), (.bool false), c77, c78, c79, c80, c81, c82, c83, c84, c85, c86, c87, c88, c89, c90, c91, c92, c93, c94, c95, c96, c97, c98, c99, c100, c101, c102, c103, c104, c105, c106, c107, c108, c109, c110, c111, c112, c113, c114, c115, c116, c117, c118, c119, c120, c121, c122, c123, c124, c125, c126, c127, c128, c129, c130, c131, c132, c133, c134, c135, c136, c137, c138, c139, c140, c141, c142, c143, c144, c145, c146, c147, c148, c149, c150, c151, c152, c153, c154, c155, c156, c157, c158, c159, c160, c161, c162, c163, c164], []⟩ w6) :
    Code.wp Try.prog (((Try.f6.body).bind (regionNo 11)).getD .skip) Q ⟨#[c0, c1, c2, c3, c4, c5, c6, (.pointer (some ⟨g, 0, none⟩)), (.slice ao n cap), c9, c10, (.int .i64 i), (.pointer (some ⟨X0, 0, none⟩)), c13, c14, c15, c16, c17, c18, c19, c20, c21, c22, c23, c24, c25, c26, c27, c28, c29, c30, c31, c32, c33, c34, c35, c36, c37, c38, c39, c40, c41, c42, c43, c44, c45, c46, c47, c48, c49, c50, c51, c52, c53, c54, c55, c56, c57, c58, c59, c60, c61, c62, c63, c64, c65, c66, c67, c68, c69, c70, c71, c72, c73, c74, c75, c76, c77, c78, c79, c80, c81, c82, c83, c84, c85, c86, c87, c88, c89, c90, c91, c92, c93, c94, c95, c96, c97, c98, c99, c100, c101, c102, c103, c104, c105, c106, c107, c108, c109, c110, c111, c112, c113, c114, c115, c116, c117, c118, c119, c120, c121, c122, c123, c124, c125, c126, c127, c128, c129, c130, c131, c132, c133, c134, c135, c136, c137, c138, c139, c140, c141, c142, c143, c144, c145, c146, c147, c148, c149, c150, c151, c152, c153, c154, c155, c156, c157, c158, c159, c160, c161, c162, c163, c164], []⟩ W := by
  conv => arg 2; whnf
  have HQ := Lib.hid hq
  clear hq
  refine region_still (by kernel_rfl) [(.int .i64 i), (.bool false), (.bool false), undef, undef, undef, undef, undef, undef, undef, undef, undef, (.bool false), (.bool false), (.pointer (some ⟨X0, 0, none⟩)), (.int .u64 x.se), (.pointer (some ⟨g, 0, none⟩)), (.int .u64 N), (.bool false), (.bool false), (.bool false), (.pointer (some ⟨X0, 4, none⟩)), (.int .i64 x.lf), (.bool false), (.bool false), (.bool false), (.pointer (some ⟨X0, 2, none⟩)), (.int .u8 x.sl), (.pointer (some ⟨X0, 3, none⟩)), (.int .u8 x.bu), (.bool false), (.bool false), (.bool false), (.pointer (some ⟨X0, 5, none⟩)), (.agg #[.int .i64 x.nu, .int .i64 x.de]), (.bool true), (.bool false), (.bool false)]
    (fun w' => Below W.heap.size W w') (by kernel_rfl) (Below.refl _ _).drew ?_
  intro af haf
  simp only [List.toList_toArray, List.append_eq, List.cons_append, List.nil_append, puts, Act.put, List.getD_cons_zero, List.getD_cons_succ, List.setIfInBounds_toArray, List.set_cons_succ, List.set_cons_zero] at haf
  subst haf
  refine ⟨?_, ?_⟩
  · simp only [List.toList_toArray, List.append_eq, List.cons_append, List.nil_append, EachTo]
    refine ⟨?_, ?_, ?_, ?_, ?_, ?_, ?_, ?_, ?_, ?_, ?_, ?_, ?_, ?_, ?_, ?_, ?_, ?_, ?_, ?_, ?_, ?_, ?_, ?_, ?_, ?_, ?_, ?_, ?_, ?_, ?_, ?_, ?_, ?_, ?_, ?_, ?_, ?_, trivial⟩
    · intro w' hS
      refine OpTo.plain ?_ ?_
      exact rfl
      have HS := Lib.hid hS
      clear hS
      go_wp2_with fail
      all_goals first | exact HS.out | exact ⟨rfl, HS.out⟩ | rfl | exact ⟨by omega, HS.out⟩
    · intro w' hS
      refine OpTo.plain ?_ ?_
      exact rfl
      have HS := Lib.hid hS
      clear hS
      go_wp2_with fail
      all_goals first | exact HS.out | exact ⟨rfl, HS.out⟩ | rfl | exact ⟨by omega, HS.out⟩
    · intro w' hS
      refine OpTo.plain ?_ ?_
      exact rfl
      have HS := Lib.hid hS
      clear hS
      go_wp2_with fail
      all_goals first | exact HS.out | exact ⟨rfl, HS.out⟩ | rfl | exact ⟨by omega, HS.out⟩
    · intro w' hS
      refine OpTo.passed (by kernel_rfl) rfl hS
    · intro w' hS
      refine OpTo.passed (by kernel_rfl) rfl hS
    · intro w' hS
      refine OpTo.passed (by kernel_rfl) rfl hS
    · intro w' hS
      refine OpTo.passed (by kernel_rfl) rfl hS
    · intro w' hS
      refine OpTo.passed (by kernel_rfl) rfl hS
    · intro w' hS
      refine OpTo.passed (by kernel_rfl) rfl hS
    · intro w' hS
      refine OpTo.passed (by kernel_rfl) rfl hS
    · intro w' hS
      refine OpTo.passed (by kernel_rfl) rfl hS
    · intro w' hS
      refine OpTo.passed (by kernel_rfl) rfl hS
    · intro w' hS
      refine OpTo.plain ?_ ?_
      exact rfl
      have HS := Lib.hid hS
      clear hS
      go_wp2_with fail
      all_goals first | exact HS.out | exact ⟨rfl, HS.out⟩ | rfl | exact ⟨by omega, HS.out⟩
    · intro w' hS
      refine OpTo.plain ?_ ?_
      exact rfl
      have HS := Lib.hid hS
      clear hS
      go_wp2_with fail
      all_goals first | exact HS.out | exact ⟨rfl, HS.out⟩ | rfl | exact ⟨by omega, HS.out⟩
    · intro w' hS
      refine OpTo.wanted ?_ ?_
      kernel_rfl
      have HS := Lib.hid hS
      clear hS
      go_wp2_with fail
      all_goals first | exact HS.out | exact ⟨rfl, HS.out⟩ | rfl | exact ⟨by omega, HS.out⟩
    · intro w' hS
      refine OpTo.wanted ?_ ?_
      kernel_rfl
      have d0_0 := (KX.out.below hS KX.out.lt).cell 0
      have d0_1 := (KX.out.below hS KX.out.lt).cell 1
      have d0_2 := (KX.out.below hS KX.out.lt).cell 2
      have d0_3 := (KX.out.below hS KX.out.lt).cell 3
      have d0_4 := (KX.out.below hS KX.out.lt).cell 4
      have d0_5 := (KX.out.below hS KX.out.lt).cell 5
      have d0_6 := (KX.out.below hS KX.out.lt).cell 6
      simp at d0_0 d0_1 d0_2 d0_3 d0_4 d0_5 d0_6
      have HS := Lib.hid hS
      clear hS
      go_wp2_with fail
      all_goals first | exact HS.out | exact ⟨rfl, HS.out⟩ | rfl | exact ⟨by omega, HS.out⟩
    · intro w' hS
      refine OpTo.wanted ?_ ?_
      kernel_rfl
      have HS := Lib.hid hS
      clear hS
      go_wp2_with fail
      all_goals first | exact HS.out | exact ⟨rfl, HS.out⟩ | rfl | exact ⟨by omega, HS.out⟩
    · intro w' hS
      refine OpTo.wanted ?_ ?_
      kernel_rfl
      have HS := Lib.hid hS
      clear hS
      go_wp2_with fail
      refine (HN.out w' HS.out).mono ?_
      rintro e w'' ⟨rfl, hb2⟩
      exact ⟨rfl, andB HS.out hb2⟩
    · intro w' hS
      refine OpTo.wanted ?_ ?_
      kernel_rfl
      have HS := Lib.hid hS
      clear hS
      go_wp2_with fail
      all_goals first | exact HS.out | exact ⟨rfl, HS.out⟩ | rfl | exact ⟨by omega, HS.out⟩
    · intro w' hS
      refine OpTo.plain ?_ ?_
      exact rfl
      have HS := Lib.hid hS
      clear hS
      go_wp2_with fail
      all_goals first | exact HS.out | exact ⟨rfl, HS.out⟩ | rfl | exact ⟨by omega, HS.out⟩
    · intro w' hS
      refine OpTo.plain ?_ ?_
      exact rfl
      have HS := Lib.hid hS
      clear hS
      go_wp2_with fail
      all_goals first | exact HS.out | exact ⟨rfl, HS.out⟩ | rfl | exact ⟨by omega, HS.out⟩
    · intro w' hS
      refine OpTo.wanted ?_ ?_
      kernel_rfl
      have HS := Lib.hid hS
      clear hS
      go_wp2_with fail
      all_goals first | exact HS.out | exact ⟨rfl, HS.out⟩ | rfl | exact ⟨by omega, HS.out⟩
    · intro w' hS
      refine OpTo.wanted ?_ ?_
      kernel_rfl
      have d0_0 := (KX.out.below hS KX.out.lt).cell 0
      have d0_1 := (KX.out.below hS KX.out.lt).cell 1
      have d0_2 := (KX.out.below hS KX.out.lt).cell 2
      have d0_3 := (KX.out.below hS KX.out.lt).cell 3
      have d0_4 := (KX.out.below hS KX.out.lt).cell 4
      have d0_5 := (KX.out.below hS KX.out.lt).cell 5
      have d0_6 := (KX.out.below hS KX.out.lt).cell 6
      simp at d0_0 d0_1 d0_2 d0_3 d0_4 d0_5 d0_6
      have HS := Lib.hid hS
      clear hS
      go_wp2_with fail
      all_goals first | exact HS.out | exact ⟨rfl, HS.out⟩ | rfl | exact ⟨by omega, HS.out⟩
    · intro w' hS
      refine OpTo.wanted ?_ ?_
      kernel_rfl
      have HS := Lib.hid hS
      clear hS
      go_wp2_with fail
      all_goals first | exact HS.out | exact ⟨rfl, HS.out⟩ | rfl | exact ⟨by omega, HS.out⟩
    · intro w' hS
      refine OpTo.plain ?_ ?_
      exact rfl
      have HS := Lib.hid hS
      clear hS
      go_wp2_with fail
      all_goals first | exact HS.out | exact ⟨rfl, HS.out⟩ | rfl | exact ⟨by omega, HS.out⟩
    · intro w' hS
      refine OpTo.plain ?_ ?_
      exact rfl
      have HS := Lib.hid hS
      clear hS
      go_wp2_with fail
      all_goals first | exact HS.out | exact ⟨rfl, HS.out⟩ | rfl | exact ⟨by omega, HS.out⟩
    · intro w' hS
      refine OpTo.wanted ?_ ?_
      kernel_rfl
      have HS := Lib.hid hS
      clear hS
      go_wp2_with fail
      all_goals first | exact HS.out | exact ⟨rfl, HS.out⟩ | rfl | exact ⟨by omega, HS.out⟩
    · intro w' hS
      refine OpTo.wanted ?_ ?_
      kernel_rfl
      have d0_0 := (KX.out.below hS KX.out.lt).cell 0
      have d0_1 := (KX.out.below hS KX.out.lt).cell 1
      have d0_2 := (KX.out.below hS KX.out.lt).cell 2
      have d0_3 := (KX.out.below hS KX.out.lt).cell 3
      have d0_4 := (KX.out.below hS KX.out.lt).cell 4
      have d0_5 := (KX.out.below hS KX.out.lt).cell 5
      have d0_6 := (KX.out.below hS KX.out.lt).cell 6
      simp at d0_0 d0_1 d0_2 d0_3 d0_4 d0_5 d0_6
      have HS := Lib.hid hS
      clear hS
      go_wp2_with fail
      all_goals first | exact HS.out | exact ⟨rfl, HS.out⟩ | rfl | exact ⟨by omega, HS.out⟩
    · intro w' hS
      refine OpTo.wanted ?_ ?_
      kernel_rfl
      have HS := Lib.hid hS
      clear hS
      go_wp2_with fail
      all_goals first | exact HS.out | exact ⟨rfl, HS.out⟩ | rfl | exact ⟨by omega, HS.out⟩
    · intro w' hS
      refine OpTo.wanted ?_ ?_
      kernel_rfl
      have d0_0 := (KX.out.below hS KX.out.lt).cell 0
      have d0_1 := (KX.out.below hS KX.out.lt).cell 1
      have d0_2 := (KX.out.below hS KX.out.lt).cell 2
      have d0_3 := (KX.out.below hS KX.out.lt).cell 3
      have d0_4 := (KX.out.below hS KX.out.lt).cell 4
      have d0_5 := (KX.out.below hS KX.out.lt).cell 5
      have d0_6 := (KX.out.below hS KX.out.lt).cell 6
      simp at d0_0 d0_1 d0_2 d0_3 d0_4 d0_5 d0_6
      have HS := Lib.hid hS
      clear hS
      go_wp2_with fail
      all_goals first | exact HS.out | exact ⟨rfl, HS.out⟩ | rfl | exact ⟨by omega, HS.out⟩
    · intro w' hS
      refine OpTo.wanted ?_ ?_
      kernel_rfl
      have HS := Lib.hid hS
      clear hS
      go_wp2_with fail
      all_goals first | exact HS.out | exact ⟨rfl, HS.out⟩ | rfl | exact ⟨by omega, HS.out⟩
    · intro w' hS
      refine OpTo.plain ?_ ?_
      exact rfl
      have HS := Lib.hid hS
      clear hS
      go_wp2_with fail
      all_goals first | exact HS.out | exact ⟨rfl, HS.out⟩ | rfl | exact ⟨by omega, HS.out⟩
    · intro w' hS
      refine OpTo.plain ?_ ?_
      exact rfl
      have HS := Lib.hid hS
      clear hS
      go_wp2_with fail
      all_goals first | exact HS.out | exact ⟨rfl, HS.out⟩ | rfl | exact ⟨by omega, HS.out⟩
    · intro w' hS
      refine OpTo.wanted ?_ ?_
      kernel_rfl
      have HS := Lib.hid hS
      clear hS
      go_wp2_with fail
      all_goals first | exact HS.out | exact ⟨rfl, HS.out⟩ | rfl | exact ⟨by omega, HS.out⟩
    · intro w' hS
      refine OpTo.wanted ?_ ?_
      kernel_rfl
      have d0_0 := (KX.out.below hS KX.out.lt).cell 0
      have d0_1 := (KX.out.below hS KX.out.lt).cell 1
      have d0_2 := (KX.out.below hS KX.out.lt).cell 2
      have d0_3 := (KX.out.below hS KX.out.lt).cell 3
      have d0_4 := (KX.out.below hS KX.out.lt).cell 4
      have d0_5 := (KX.out.below hS KX.out.lt).cell 5
      have d0_6 := (KX.out.below hS KX.out.lt).cell 6
      simp at d0_0 d0_1 d0_2 d0_3 d0_4 d0_5 d0_6
      have HS := Lib.hid hS
      clear hS
      go_wp2_with fail
      all_goals first | exact HS.out | exact ⟨rfl, HS.out⟩ | rfl | exact ⟨by omega, HS.out⟩
    · intro w' hS
      refine OpTo.wanted ?_ ?_
      kernel_rfl
      have HS := Lib.hid hS
      clear hS
      go_wp2_with fail
      refine (HM.out w').mono ?_
      rintro e w'' ⟨rfl, hb2⟩
      exact ⟨rfl, andB HS.out hb2⟩
    · intro w' hS
      refine OpTo.wanted ?_ ?_
      kernel_rfl
      have HS := Lib.hid hS
      clear hS
      go_wp2_with fail
      all_goals first | exact HS.out | exact ⟨rfl, HS.out⟩ | rfl | exact ⟨by omega, HS.out⟩
    · intro w' hS
      refine OpTo.plain ?_ ?_
      exact rfl
      have HS := Lib.hid hS
      clear hS
      go_wp2_with fail
      all_goals first | exact HS.out | exact ⟨rfl, HS.out⟩ | rfl | exact ⟨by omega, HS.out⟩
  intro w6 b6
  exact HQ.out w6 b6
set_option maxHeartbeats 4000000 in
set_option maxRecDepth 100000 in
theorem bbest_11b {W : World} {b n cap g X0 : Nat} {i N : Int} {x y : Of} (i1 : 1 ≤ i) (i2 : i < (n : Int)) (hn : n ≤ 1000) (c0 : decide (0 < i) = true) (HB : Hid (b < W.heap.size)) (Y0 : Hid (W.cell? ⟨b, (i.toNat - 1) * 7, none⟩ = some (.int .u64 y.se))) (KX : Hid (Blk W X0 #[.int .u64 x.se, .int .u8 x.ow, .int .u8 x.sl, .int .u8 x.bu, .int .i64 x.lf, .int .i64 x.nu, .int .i64 x.de] 39)) (HN : Hid (∀ w', Below W.heap.size W w' → Calls Try.prog 33 #[.pointer (some ⟨g, 0, none⟩)] w' fun e w'' => e = .returned (.int .u64 N) ∧ Below w'.heap.size w' w'')) (HM : Hid (∀ w', Calls Try.prog 35 #[.agg #[.int .i64 x.nu, .int .i64 x.de]] w' fun e w'' => e = .returned (.bool true) ∧ Below w'.heap.size w' w'')) (c1 : decide (x.se ≤ y.se) = false) (c2 : decide (N ≤ x.se) = false) (c3 : decide (x.lf < 1) = false) (c4 : (x.sl == x.bu) = false) {Q : Exit → Act → World → Prop} {c0 c1 c2 c3 c4 c5 c6 c9 c10 c13 c14 c15 c16 c17 c18 c19 c20 c21 c22 c23 c24 c25 c26 c27 c28 c29 c30 c31 c32 c33 c34 c35 c36 c37 c38 c39 c40 c41 c42 c43 c44 c45 c46 c47 c48 c49 c50 c51 c52 c53 c54 c55 c56 c57 c58 c59 c60 c61 c62 c63 c64 c65 c66 c67 c68 c69 c70 c71 c72 c73 c74 c75 c76 c77 c78 c79 c80 c81 c82 c83 c84 c85 c86 c87 c88 c89 c90 c91 c92 c93 c94 c95 c96 c97 c98 c99 c100 c101 c102 c103 c104 c105 c106 c107 c108 c109 c110 c111 c112 c113 c114 c115 c116 c117 c118 c119 c120 c121 c122 c123 c124 c125 c126 c127 c128 c129 c130 c131 c132 c133 c134 c135 c136 c137 c138 c139 c140 c141 c142 c143 c144 c145 c146 c147 c148 c149 c150 c151 c152 c153 c154 c155 c156 c157 c158 c159 c160 c161 c162 c163 c164 : Value}
    (hq : ∀ w6, (fun w' => Below W.heap.size W w') w6 → Q .normal ⟨#[c0, c1, c2, c3, c4, c5, c6, (.pointer (some ⟨g, 0, none⟩)), (.slice (some ⟨b, 0, none⟩) n cap), c9, c10, (.int .i64 i), (.pointer (some ⟨X0, 0, none⟩)), c13, c14, c15, c16, c17, c18, c19, c20, c21, c22, c23, c24, c25, c26, c27, c28, c29, c30, c31, c32, c33, c34, c35, c36, c37, c38, (.int .i64 i), (.bool true), (.bool true), (.slice (some ⟨b, 0, none⟩) n cap), (.int .i64 i), (.int .i64 (i - 1)), (.pointer (some ⟨b, (i.toNat - 1) * 7, none⟩)), (.pointer (some ⟨b, (i.toNat - 1) * 7, none⟩)), (.int .u64 y.se), (.pointer (some ⟨X0, 0, none⟩)), (.int .u64 x.se), (.bool false), (.bool false), (.bool false), (.pointer (some ⟨X0, 0, none⟩)), (.int .u64 x.se), (.pointer (some ⟨g, 0, none⟩)), (.int .u64 N), (.bool false), (.bool false), (.bool false), (.pointer (some ⟨X0, 4, none⟩)), (.int .i64 x.lf), (.bool false), (.bool false), (.bool false), (.pointer (some ⟨X0, 2, none⟩)), (.int .u8 x.sl), (.pointer (some ⟨X0, 3, none⟩)), (.int .u8 x.bu), (.bool false), (.bool false), (.bool false), (.pointer (some ⟨X0, 5, none⟩)), (.agg #[.int .i64 x.nu, .int .i64 x.de]), (.bool true), (.bool false), (.bool false), c77, c78, c79, c80, c81, c82, c83, c84, c85, c86, c87, c88, c89, c90, c91, c92, c93, c94, c95, c96, c97, c98, c99, c100, c101, c102, c103, c104, c105, c106, c107, c108, c109, c110, c111, c112, c113, c114, c115, c116, c117, c118, c119, c120, c121, c122, c123, c124, c125, c126, c127, c128, c129, c130, c131, c132, c133, c134, c135, c136, c137, c138, c139, c140, c141, c142, c143, c144, c145, c146, c147, c148, c149, c150, c151, c152, c153, c154, c155, c156, c157, c158, c159, c160, c161, c162, c163, c164], []⟩ w6) :
    Code.wp Try.prog (((Try.f6.body).bind (regionNo 11)).getD .skip) Q ⟨#[c0, c1, c2, c3, c4, c5, c6, (.pointer (some ⟨g, 0, none⟩)), (.slice (some ⟨b, 0, none⟩) n cap), c9, c10, (.int .i64 i), (.pointer (some ⟨X0, 0, none⟩)), c13, c14, c15, c16, c17, c18, c19, c20, c21, c22, c23, c24, c25, c26, c27, c28, c29, c30, c31, c32, c33, c34, c35, c36, c37, c38, c39, c40, c41, c42, c43, c44, c45, c46, c47, c48, c49, c50, c51, c52, c53, c54, c55, c56, c57, c58, c59, c60, c61, c62, c63, c64, c65, c66, c67, c68, c69, c70, c71, c72, c73, c74, c75, c76, c77, c78, c79, c80, c81, c82, c83, c84, c85, c86, c87, c88, c89, c90, c91, c92, c93, c94, c95, c96, c97, c98, c99, c100, c101, c102, c103, c104, c105, c106, c107, c108, c109, c110, c111, c112, c113, c114, c115, c116, c117, c118, c119, c120, c121, c122, c123, c124, c125, c126, c127, c128, c129, c130, c131, c132, c133, c134, c135, c136, c137, c138, c139, c140, c141, c142, c143, c144, c145, c146, c147, c148, c149, c150, c151, c152, c153, c154, c155, c156, c157, c158, c159, c160, c161, c162, c163, c164], []⟩ W := by
  conv => arg 2; whnf
  have HQ := Lib.hid hq
  clear hq
  refine region_still (by kernel_rfl) [(.int .i64 i), (.bool true), (.bool true), (.slice (some ⟨b, 0, none⟩) n cap), (.int .i64 i), (.int .i64 (i - 1)), (.pointer (some ⟨b, (i.toNat - 1) * 7, none⟩)), (.pointer (some ⟨b, (i.toNat - 1) * 7, none⟩)), (.int .u64 y.se), (.pointer (some ⟨X0, 0, none⟩)), (.int .u64 x.se), (.bool false), (.bool false), (.bool false), (.pointer (some ⟨X0, 0, none⟩)), (.int .u64 x.se), (.pointer (some ⟨g, 0, none⟩)), (.int .u64 N), (.bool false), (.bool false), (.bool false), (.pointer (some ⟨X0, 4, none⟩)), (.int .i64 x.lf), (.bool false), (.bool false), (.bool false), (.pointer (some ⟨X0, 2, none⟩)), (.int .u8 x.sl), (.pointer (some ⟨X0, 3, none⟩)), (.int .u8 x.bu), (.bool false), (.bool false), (.bool false), (.pointer (some ⟨X0, 5, none⟩)), (.agg #[.int .i64 x.nu, .int .i64 x.de]), (.bool true), (.bool false), (.bool false)]
    (fun w' => Below W.heap.size W w') (by kernel_rfl) (Below.refl _ _).drew ?_
  intro af haf
  simp only [List.toList_toArray, List.append_eq, List.cons_append, List.nil_append, puts, Act.put, List.getD_cons_zero, List.getD_cons_succ, List.setIfInBounds_toArray, List.set_cons_succ, List.set_cons_zero] at haf
  subst haf
  refine ⟨?_, ?_⟩
  · simp only [List.toList_toArray, List.append_eq, List.cons_append, List.nil_append, EachTo]
    refine ⟨?_, ?_, ?_, ?_, ?_, ?_, ?_, ?_, ?_, ?_, ?_, ?_, ?_, ?_, ?_, ?_, ?_, ?_, ?_, ?_, ?_, ?_, ?_, ?_, ?_, ?_, ?_, ?_, ?_, ?_, ?_, ?_, ?_, ?_, ?_, ?_, ?_, ?_, trivial⟩
    · intro w' hS
      refine OpTo.plain ?_ ?_
      exact rfl
      have HS := Lib.hid hS
      clear hS
      go_wp2_with fail
      all_goals first | exact HS.out | exact ⟨rfl, HS.out⟩ | rfl | exact ⟨by omega, HS.out⟩
    · intro w' hS
      refine OpTo.plain ?_ ?_
      exact rfl
      have HS := Lib.hid hS
      clear hS
      go_wp2_with fail
      all_goals first | exact HS.out | exact ⟨rfl, HS.out⟩ | rfl | exact ⟨by omega, HS.out⟩
    · intro w' hS
      refine OpTo.plain ?_ ?_
      exact rfl
      have HS := Lib.hid hS
      clear hS
      go_wp2_with fail
      all_goals first | exact HS.out | exact ⟨rfl, HS.out⟩ | rfl | exact ⟨by omega, HS.out⟩
    · intro w' hS
      refine OpTo.wanted ?_ ?_
      kernel_rfl
      have HS := Lib.hid hS
      clear hS
      go_wp2_with fail
      all_goals first | exact HS.out | exact ⟨rfl, HS.out⟩ | rfl | exact ⟨by omega, HS.out⟩
    · intro w' hS
      refine OpTo.wanted ?_ ?_
      kernel_rfl
      have HS := Lib.hid hS
      clear hS
      go_wp2_with fail
      all_goals first | exact HS.out | exact ⟨rfl, HS.out⟩ | rfl | exact ⟨by omega, HS.out⟩
    · intro w' hS
      refine OpTo.wanted ?_ ?_
      kernel_rfl
      have HS := Lib.hid hS
      clear hS
      go_wp2_with fail
      all_goals first | exact HS.out | exact ⟨rfl, HS.out⟩ | rfl | exact ⟨by omega, HS.out⟩
    · intro w' hS
      refine OpTo.wanted ?_ ?_
      kernel_rfl
      have HS := Lib.hid hS
      clear hS
      go_wp2_with fail
      all_goals first | exact HS.out | exact ⟨rfl, HS.out⟩ | rfl | exact ⟨by omega, HS.out⟩
    · intro w' hS
      refine OpTo.wanted ?_ ?_
      kernel_rfl
      have HS := Lib.hid hS
      clear hS
      go_wp2_with fail
      all_goals first | exact HS.out | exact ⟨rfl, HS.out⟩ | rfl | exact ⟨by omega, HS.out⟩
    · intro w' hS
      refine OpTo.wanted ?_ ?_
      kernel_rfl
      have hlt := Nat.lt_of_lt_of_le HB.out hS.size
      have y0 := (hS.cell (p := ⟨b, (i.toNat - 1) * 7, none⟩) HB.out).trans Y0.out
      have HS := Lib.hid hS
      clear hS
      go_wp2_with fail
      all_goals first | exact HS.out | exact ⟨rfl, HS.out⟩ | rfl | exact ⟨by omega, HS.out⟩
    · intro w' hS
      refine OpTo.wanted ?_ ?_
      kernel_rfl
      have HS := Lib.hid hS
      clear hS
      go_wp2_with fail
      all_goals first | exact HS.out | exact ⟨rfl, HS.out⟩ | rfl | exact ⟨by omega, HS.out⟩
    · intro w' hS
      refine OpTo.wanted ?_ ?_
      kernel_rfl
      have d0_0 := (KX.out.below hS KX.out.lt).cell 0
      have d0_1 := (KX.out.below hS KX.out.lt).cell 1
      have d0_2 := (KX.out.below hS KX.out.lt).cell 2
      have d0_3 := (KX.out.below hS KX.out.lt).cell 3
      have d0_4 := (KX.out.below hS KX.out.lt).cell 4
      have d0_5 := (KX.out.below hS KX.out.lt).cell 5
      have d0_6 := (KX.out.below hS KX.out.lt).cell 6
      simp at d0_0 d0_1 d0_2 d0_3 d0_4 d0_5 d0_6
      have HS := Lib.hid hS
      clear hS
      go_wp2_with fail
      all_goals first | exact HS.out | exact ⟨rfl, HS.out⟩ | rfl | exact ⟨by omega, HS.out⟩
    · intro w' hS
      refine OpTo.wanted ?_ ?_
      kernel_rfl
      have HS := Lib.hid hS
      clear hS
      go_wp2_with fail
      all_goals first | exact HS.out | exact ⟨rfl, HS.out⟩ | rfl | exact ⟨by omega, HS.out⟩
    · intro w' hS
      refine OpTo.plain ?_ ?_
      exact rfl
      have HS := Lib.hid hS
      clear hS
      go_wp2_with fail
      all_goals first | exact HS.out | exact ⟨rfl, HS.out⟩ | rfl | exact ⟨by omega, HS.out⟩
    · intro w' hS
      refine OpTo.plain ?_ ?_
      exact rfl
      have HS := Lib.hid hS
      clear hS
      go_wp2_with fail
      all_goals first | exact HS.out | exact ⟨rfl, HS.out⟩ | rfl | exact ⟨by omega, HS.out⟩
    · intro w' hS
      refine OpTo.wanted ?_ ?_
      kernel_rfl
      have HS := Lib.hid hS
      clear hS
      go_wp2_with fail
      all_goals first | exact HS.out | exact ⟨rfl, HS.out⟩ | rfl | exact ⟨by omega, HS.out⟩
    · intro w' hS
      refine OpTo.wanted ?_ ?_
      kernel_rfl
      have d0_0 := (KX.out.below hS KX.out.lt).cell 0
      have d0_1 := (KX.out.below hS KX.out.lt).cell 1
      have d0_2 := (KX.out.below hS KX.out.lt).cell 2
      have d0_3 := (KX.out.below hS KX.out.lt).cell 3
      have d0_4 := (KX.out.below hS KX.out.lt).cell 4
      have d0_5 := (KX.out.below hS KX.out.lt).cell 5
      have d0_6 := (KX.out.below hS KX.out.lt).cell 6
      simp at d0_0 d0_1 d0_2 d0_3 d0_4 d0_5 d0_6
      have HS := Lib.hid hS
      clear hS
      go_wp2_with fail
      all_goals first | exact HS.out | exact ⟨rfl, HS.out⟩ | rfl | exact ⟨by omega, HS.out⟩
    · intro w' hS
      refine OpTo.wanted ?_ ?_
      kernel_rfl
      have HS := Lib.hid hS
      clear hS
      go_wp2_with fail
      all_goals first | exact HS.out | exact ⟨rfl, HS.out⟩ | rfl | exact ⟨by omega, HS.out⟩
    · intro w' hS
      refine OpTo.wanted ?_ ?_
      kernel_rfl
      have HS := Lib.hid hS
      clear hS
      go_wp2_with fail
      refine (HN.out w' HS.out).mono ?_
      rintro e w'' ⟨rfl, hb2⟩
      exact ⟨rfl, andB HS.out hb2⟩
    · intro w' hS
      refine OpTo.wanted ?_ ?_
      kernel_rfl
      have HS := Lib.hid hS
      clear hS
      go_wp2_with fail
      all_goals first | exact HS.out | exact ⟨rfl, HS.out⟩ | rfl | exact ⟨by omega, HS.out⟩
    · intro w' hS
      refine OpTo.plain ?_ ?_
      exact rfl
      have HS := Lib.hid hS
      clear hS
      go_wp2_with fail
      all_goals first | exact HS.out | exact ⟨rfl, HS.out⟩ | rfl | exact ⟨by omega, HS.out⟩
    · intro w' hS
      refine OpTo.plain ?_ ?_
      exact rfl
      have HS := Lib.hid hS
      clear hS
      go_wp2_with fail
      all_goals first | exact HS.out | exact ⟨rfl, HS.out⟩ | rfl | exact ⟨by omega, HS.out⟩
    · intro w' hS
      refine OpTo.wanted ?_ ?_
      kernel_rfl
      have HS := Lib.hid hS
      clear hS
      go_wp2_with fail
      all_goals first | exact HS.out | exact ⟨rfl, HS.out⟩ | rfl | exact ⟨by omega, HS.out⟩
    · intro w' hS
      refine OpTo.wanted ?_ ?_
      kernel_rfl
      have d0_0 := (KX.out.below hS KX.out.lt).cell 0
      have d0_1 := (KX.out.below hS KX.out.lt).cell 1
      have d0_2 := (KX.out.below hS KX.out.lt).cell 2
      have d0_3 := (KX.out.below hS KX.out.lt).cell 3
      have d0_4 := (KX.out.below hS KX.out.lt).cell 4
      have d0_5 := (KX.out.below hS KX.out.lt).cell 5
      have d0_6 := (KX.out.below hS KX.out.lt).cell 6
      simp at d0_0 d0_1 d0_2 d0_3 d0_4 d0_5 d0_6
      have HS := Lib.hid hS
      clear hS
      go_wp2_with fail
      all_goals first | exact HS.out | exact ⟨rfl, HS.out⟩ | rfl | exact ⟨by omega, HS.out⟩
    · intro w' hS
      refine OpTo.wanted ?_ ?_
      kernel_rfl
      have HS := Lib.hid hS
      clear hS
      go_wp2_with fail
      all_goals first | exact HS.out | exact ⟨rfl, HS.out⟩ | rfl | exact ⟨by omega, HS.out⟩
    · intro w' hS
      refine OpTo.plain ?_ ?_
      exact rfl
      have HS := Lib.hid hS
      clear hS
      go_wp2_with fail
      all_goals first | exact HS.out | exact ⟨rfl, HS.out⟩ | rfl | exact ⟨by omega, HS.out⟩
    · intro w' hS
      refine OpTo.plain ?_ ?_
      exact rfl
      have HS := Lib.hid hS
      clear hS
      go_wp2_with fail
      all_goals first | exact HS.out | exact ⟨rfl, HS.out⟩ | rfl | exact ⟨by omega, HS.out⟩
    · intro w' hS
      refine OpTo.wanted ?_ ?_
      kernel_rfl
      have HS := Lib.hid hS
      clear hS
      go_wp2_with fail
      all_goals first | exact HS.out | exact ⟨rfl, HS.out⟩ | rfl | exact ⟨by omega, HS.out⟩
    · intro w' hS
      refine OpTo.wanted ?_ ?_
      kernel_rfl
      have d0_0 := (KX.out.below hS KX.out.lt).cell 0
      have d0_1 := (KX.out.below hS KX.out.lt).cell 1
      have d0_2 := (KX.out.below hS KX.out.lt).cell 2
      have d0_3 := (KX.out.below hS KX.out.lt).cell 3
      have d0_4 := (KX.out.below hS KX.out.lt).cell 4
      have d0_5 := (KX.out.below hS KX.out.lt).cell 5
      have d0_6 := (KX.out.below hS KX.out.lt).cell 6
      simp at d0_0 d0_1 d0_2 d0_3 d0_4 d0_5 d0_6
      have HS := Lib.hid hS
      clear hS
      go_wp2_with fail
      all_goals first | exact HS.out | exact ⟨rfl, HS.out⟩ | rfl | exact ⟨by omega, HS.out⟩
    · intro w' hS
      refine OpTo.wanted ?_ ?_
      kernel_rfl
      have HS := Lib.hid hS
      clear hS
      go_wp2_with fail
      all_goals first | exact HS.out | exact ⟨rfl, HS.out⟩ | rfl | exact ⟨by omega, HS.out⟩
    · intro w' hS
      refine OpTo.wanted ?_ ?_
      kernel_rfl
      have d0_0 := (KX.out.below hS KX.out.lt).cell 0
      have d0_1 := (KX.out.below hS KX.out.lt).cell 1
      have d0_2 := (KX.out.below hS KX.out.lt).cell 2
      have d0_3 := (KX.out.below hS KX.out.lt).cell 3
      have d0_4 := (KX.out.below hS KX.out.lt).cell 4
      have d0_5 := (KX.out.below hS KX.out.lt).cell 5
      have d0_6 := (KX.out.below hS KX.out.lt).cell 6
      simp at d0_0 d0_1 d0_2 d0_3 d0_4 d0_5 d0_6
      have HS := Lib.hid hS
      clear hS
      go_wp2_with fail
      all_goals first | exact HS.out | exact ⟨rfl, HS.out⟩ | rfl | exact ⟨by omega, HS.out⟩
    · intro w' hS
      refine OpTo.wanted ?_ ?_
      kernel_rfl
      have HS := Lib.hid hS
      clear hS
      go_wp2_with fail
      all_goals first | exact HS.out | exact ⟨rfl, HS.out⟩ | rfl | exact ⟨by omega, HS.out⟩
    · intro w' hS
      refine OpTo.plain ?_ ?_
      exact rfl
      have HS := Lib.hid hS
      clear hS
      go_wp2_with fail
      all_goals first | exact HS.out | exact ⟨rfl, HS.out⟩ | rfl | exact ⟨by omega, HS.out⟩
    · intro w' hS
      refine OpTo.plain ?_ ?_
      exact rfl
      have HS := Lib.hid hS
      clear hS
      go_wp2_with fail
      all_goals first | exact HS.out | exact ⟨rfl, HS.out⟩ | rfl | exact ⟨by omega, HS.out⟩
    · intro w' hS
      refine OpTo.wanted ?_ ?_
      kernel_rfl
      have HS := Lib.hid hS
      clear hS
      go_wp2_with fail
      all_goals first | exact HS.out | exact ⟨rfl, HS.out⟩ | rfl | exact ⟨by omega, HS.out⟩
    · intro w' hS
      refine OpTo.wanted ?_ ?_
      kernel_rfl
      have d0_0 := (KX.out.below hS KX.out.lt).cell 0
      have d0_1 := (KX.out.below hS KX.out.lt).cell 1
      have d0_2 := (KX.out.below hS KX.out.lt).cell 2
      have d0_3 := (KX.out.below hS KX.out.lt).cell 3
      have d0_4 := (KX.out.below hS KX.out.lt).cell 4
      have d0_5 := (KX.out.below hS KX.out.lt).cell 5
      have d0_6 := (KX.out.below hS KX.out.lt).cell 6
      simp at d0_0 d0_1 d0_2 d0_3 d0_4 d0_5 d0_6
      have HS := Lib.hid hS
      clear hS
      go_wp2_with fail
      all_goals first | exact HS.out | exact ⟨rfl, HS.out⟩ | rfl | exact ⟨by omega, HS.out⟩
    · intro w' hS
      refine OpTo.wanted ?_ ?_
      kernel_rfl
      have HS := Lib.hid hS
      clear hS
      go_wp2_with fail
      refine (HM.out w').mono ?_
      rintro e w'' ⟨rfl, hb2⟩
      exact ⟨rfl, andB HS.out hb2⟩
    · intro w' hS
      refine OpTo.wanted ?_ ?_
      kernel_rfl
      have HS := Lib.hid hS
      clear hS
      go_wp2_with fail
      all_goals first | exact HS.out | exact ⟨rfl, HS.out⟩ | rfl | exact ⟨by omega, HS.out⟩
    · intro w' hS
      refine OpTo.plain ?_ ?_
      exact rfl
      have HS := Lib.hid hS
      clear hS
      go_wp2_with fail
      all_goals first | exact HS.out | exact ⟨rfl, HS.out⟩ | rfl | exact ⟨by omega, HS.out⟩
  intro w6 b6
  exact HQ.out w6 b6
set_option maxHeartbeats 4000000 in
set_option maxRecDepth 100000 in
theorem bbest_21 {W : World} {b n cap X0 : Nat} {i s u : Int} {x : Of} (i1 : 0 ≤ i) (i2 : i < (n : Int)) (hn : n ≤ 1000) (HB : Hid (b < W.heap.size)) (Y0 : Hid (W.cell? ⟨b, i.toNat * 7, none⟩ = some (.int .u64 x.se))) (Y1 : Hid (W.cell? ⟨b, i.toNat * 7 + 1, none⟩ = some (.int .u8 x.ow))) (Y2 : Hid (W.cell? ⟨b, i.toNat * 7 + 2, none⟩ = some (.int .u8 x.sl))) (Y3 : Hid (W.cell? ⟨b, i.toNat * 7 + 3, none⟩ = some (.int .u8 x.bu))) (Y4 : Hid (W.cell? ⟨b, i.toNat * 7 + 4, none⟩ = some (.int .i64 x.lf))) (Y5 : Hid (W.cell? ⟨b, i.toNat * 7 + 5, none⟩ = some (.int .i64 x.nu))) (Y6 : Hid (W.cell? ⟨b, i.toNat * 7 + 6, none⟩ = some (.int .i64 x.de))) (KX : Hid (Blk W X0 #[.int .u64 x.se, .int .u8 x.ow, .int .u8 x.sl, .int .u8 x.bu, .int .i64 x.lf, .int .i64 x.nu, .int .i64 x.de] 39)) (c1 : (x.sl == s) = true) (c2 : (x.sl != s) = false) (c3 : (x.bu == u) = true) (c4 : (x.bu != u) = false) {Q : Exit → Act → World → Prop} {c0 c3 c4 c5 c6 c7 c8 c10 c11 c12 c16 c17 c18 c19 c20 c21 c22 c23 c24 c25 c26 c27 c28 c29 c30 c31 c32 c33 c34 c35 c36 c37 c38 c39 c40 c41 c42 c43 c44 c45 c46 c47 c48 c49 c50 c51 c52 c53 c54 c55 c56 c57 c58 c59 c60 c61 c62 c63 c64 c65 c66 c67 c68 c69 c70 c71 c72 c73 c74 c75 c76 c77 c78 c79 c80 c81 c82 c83 c84 c85 c86 c87 c88 c89 c90 c91 c92 c93 c94 c95 c96 c97 c98 c99 c100 c101 c102 c103 c104 c105 c106 c107 c108 c109 c110 c111 c112 c113 c114 c115 c116 c117 c118 c119 c120 c121 c122 c123 c124 c125 c126 c127 c128 c129 c130 c131 c132 c133 c134 c135 c136 c137 c138 c139 c140 c141 c142 c143 c144 c145 c146 c147 c148 c149 c150 c151 c152 c153 c154 c155 c156 c157 c158 c159 c160 c161 c162 c163 c164 : Value}
    (hq : ∀ w6, (fun w' => Below W.heap.size W w') w6 → Q .normal ⟨#[c0, (.int .u8 s), (.int .u8 u), c3, c4, c5, c6, c7, c8, (.slice (some ⟨b, 0, none⟩) n cap), c10, c11, c12, (.int .i64 i), (.pointer (some ⟨X0, 0, none⟩)), (.bool true), c16, c17, c18, c19, c20, c21, c22, c23, c24, c25, c26, c27, c28, c29, c30, c31, c32, c33, c34, c35, c36, c37, c38, c39, c40, c41, c42, c43, c44, c45, c46, c47, c48, c49, c50, c51, c52, c53, c54, c55, c56, c57, c58, c59, c60, c61, c62, c63, c64, c65, c66, c67, c68, c69, c70, c71, c72, c73, c74, c75, c76, c77, c78, c79, c80, c81, c82, c83, c84, c85, c86, c87, c88, c89, c90, c91, c92, c93, c94, c95, c96, c97, c98, c99, c100, c101, c102, c103, c104, c105, c106, c107, c108, c109, c110, c111, c112, c113, (.bool true), (.bool false), (.bool false), (.agg #[.int .u64 x.se, .int .u8 x.ow, .int .u8 x.sl, .int .u8 x.bu, .int .i64 x.lf, .int .i64 x.nu, .int .i64 x.de]), (.slice (some ⟨b, 0, none⟩) n cap), (.int .i64 i), (.pointer (some ⟨b, i.toNat * 7, none⟩)), (.agg #[.int .u64 x.se, .int .u8 x.ow, .int .u8 x.sl, .int .u8 x.bu, .int .i64 x.lf, .int .i64 x.nu, .int .i64 x.de]), (.bool false), (.bool false), (.bool false), (.pointer (some ⟨X0, 2, none⟩)), (.int .u8 x.sl), (.int .u8 s), (.bool false), (.bool false), (.bool false), (.pointer (some ⟨X0, 3, none⟩)), (.int .u8 x.bu), (.int .u8 u), (.bool false), (.bool false), c136, c137, c138, c139, c140, c141, c142, c143, c144, c145, c146, c147, c148, c149, c150, c151, c152, c153, c154, c155, c156, c157, c158, c159, c160, c161, c162, c163, c164], []⟩ w6) :
    Code.wp Try.prog (((Try.f6.body).bind (regionNo 21)).getD .skip) Q ⟨#[c0, (.int .u8 s), (.int .u8 u), c3, c4, c5, c6, c7, c8, (.slice (some ⟨b, 0, none⟩) n cap), c10, c11, c12, (.int .i64 i), (.pointer (some ⟨X0, 0, none⟩)), (.bool true), c16, c17, c18, c19, c20, c21, c22, c23, c24, c25, c26, c27, c28, c29, c30, c31, c32, c33, c34, c35, c36, c37, c38, c39, c40, c41, c42, c43, c44, c45, c46, c47, c48, c49, c50, c51, c52, c53, c54, c55, c56, c57, c58, c59, c60, c61, c62, c63, c64, c65, c66, c67, c68, c69, c70, c71, c72, c73, c74, c75, c76, c77, c78, c79, c80, c81, c82, c83, c84, c85, c86, c87, c88, c89, c90, c91, c92, c93, c94, c95, c96, c97, c98, c99, c100, c101, c102, c103, c104, c105, c106, c107, c108, c109, c110, c111, c112, c113, c114, c115, c116, c117, c118, c119, c120, c121, c122, c123, c124, c125, c126, c127, c128, c129, c130, c131, c132, c133, c134, c135, c136, c137, c138, c139, c140, c141, c142, c143, c144, c145, c146, c147, c148, c149, c150, c151, c152, c153, c154, c155, c156, c157, c158, c159, c160, c161, c162, c163, c164], []⟩ W := by
  conv => arg 2; whnf
  have HQ := Lib.hid hq
  clear hq
  refine region_still (by kernel_rfl) [(.bool true), (.bool false), (.bool false), (.agg #[.int .u64 x.se, .int .u8 x.ow, .int .u8 x.sl, .int .u8 x.bu, .int .i64 x.lf, .int .i64 x.nu, .int .i64 x.de]), (.slice (some ⟨b, 0, none⟩) n cap), (.int .i64 i), (.pointer (some ⟨b, i.toNat * 7, none⟩)), (.agg #[.int .u64 x.se, .int .u8 x.ow, .int .u8 x.sl, .int .u8 x.bu, .int .i64 x.lf, .int .i64 x.nu, .int .i64 x.de]), (.bool false), (.bool false), (.bool false), (.pointer (some ⟨X0, 2, none⟩)), (.int .u8 x.sl), (.int .u8 s), (.bool false), (.bool false), (.bool false), (.pointer (some ⟨X0, 3, none⟩)), (.int .u8 x.bu), (.int .u8 u), (.bool false), (.bool false)]
    (fun w' => Below W.heap.size W w') (by kernel_rfl) (Below.refl _ _).drew ?_
  intro af haf
  simp only [List.toList_toArray, List.append_eq, List.cons_append, List.nil_append, puts, Act.put, List.getD_cons_zero, List.getD_cons_succ, List.setIfInBounds_toArray, List.set_cons_succ, List.set_cons_zero] at haf
  subst haf
  refine ⟨?_, ?_⟩
  · simp only [List.toList_toArray, List.append_eq, List.cons_append, List.nil_append, EachTo]
    refine ⟨?_, ?_, ?_, ?_, ?_, ?_, ?_, ?_, ?_, ?_, ?_, ?_, ?_, ?_, ?_, ?_, ?_, ?_, ?_, ?_, ?_, ?_, trivial⟩
    · intro w' hS
      refine OpTo.plain ?_ ?_
      exact rfl
      have HS := Lib.hid hS
      clear hS
      go_wp2_with fail
      all_goals first | exact HS.out | exact ⟨rfl, HS.out⟩ | rfl | exact ⟨by omega, HS.out⟩
    · intro w' hS
      refine OpTo.plain ?_ ?_
      exact rfl
      have HS := Lib.hid hS
      clear hS
      go_wp2_with fail
      all_goals first | exact HS.out | exact ⟨rfl, HS.out⟩ | rfl | exact ⟨by omega, HS.out⟩
    · intro w' hS
      refine OpTo.plain ?_ ?_
      exact rfl
      have HS := Lib.hid hS
      clear hS
      go_wp2_with fail
      all_goals first | exact HS.out | exact ⟨rfl, HS.out⟩ | rfl | exact ⟨by omega, HS.out⟩
    · intro w' hS
      refine OpTo.wanted ?_ ?_
      kernel_rfl
      have d0_0 := (KX.out.below hS KX.out.lt).cell 0
      have d0_1 := (KX.out.below hS KX.out.lt).cell 1
      have d0_2 := (KX.out.below hS KX.out.lt).cell 2
      have d0_3 := (KX.out.below hS KX.out.lt).cell 3
      have d0_4 := (KX.out.below hS KX.out.lt).cell 4
      have d0_5 := (KX.out.below hS KX.out.lt).cell 5
      have d0_6 := (KX.out.below hS KX.out.lt).cell 6
      simp at d0_0 d0_1 d0_2 d0_3 d0_4 d0_5 d0_6
      have HS := Lib.hid hS
      clear hS
      go_wp2_with fail
      all_goals first | exact HS.out | exact ⟨rfl, HS.out⟩ | rfl | exact ⟨by omega, HS.out⟩
    · intro w' hS
      refine OpTo.wanted ?_ ?_
      kernel_rfl
      have HS := Lib.hid hS
      clear hS
      go_wp2_with fail
      all_goals first | exact HS.out | exact ⟨rfl, HS.out⟩ | rfl | exact ⟨by omega, HS.out⟩
    · intro w' hS
      refine OpTo.wanted ?_ ?_
      kernel_rfl
      have HS := Lib.hid hS
      clear hS
      go_wp2_with fail
      all_goals first | exact HS.out | exact ⟨rfl, HS.out⟩ | rfl | exact ⟨by omega, HS.out⟩
    · intro w' hS
      refine OpTo.wanted ?_ ?_
      kernel_rfl
      have HS := Lib.hid hS
      clear hS
      go_wp2_with fail
      all_goals first | exact HS.out | exact ⟨rfl, HS.out⟩ | rfl | exact ⟨by omega, HS.out⟩
    · intro w' hS
      refine OpTo.wanted ?_ ?_
      kernel_rfl
      have hlt := Nat.lt_of_lt_of_le HB.out hS.size
      have y0 := (hS.cell (p := ⟨b, i.toNat * 7, none⟩) HB.out).trans Y0.out
      have y1 := (hS.cell (p := ⟨b, i.toNat * 7 + 1, none⟩) HB.out).trans Y1.out
      have y2 := (hS.cell (p := ⟨b, i.toNat * 7 + 2, none⟩) HB.out).trans Y2.out
      have y3 := (hS.cell (p := ⟨b, i.toNat * 7 + 3, none⟩) HB.out).trans Y3.out
      have y4 := (hS.cell (p := ⟨b, i.toNat * 7 + 4, none⟩) HB.out).trans Y4.out
      have y5 := (hS.cell (p := ⟨b, i.toNat * 7 + 5, none⟩) HB.out).trans Y5.out
      have y6 := (hS.cell (p := ⟨b, i.toNat * 7 + 6, none⟩) HB.out).trans Y6.out
      have HS := Lib.hid hS
      clear hS
      go_wp2_with fail
      all_goals first | exact HS.out | exact ⟨rfl, HS.out⟩ | rfl | exact ⟨by omega, HS.out⟩
    · intro w' hS
      refine OpTo.wanted ?_ ?_
      kernel_rfl
      have HS := Lib.hid hS
      clear hS
      go_wp2_with fail
      all_goals first | exact HS.out | exact ⟨rfl, HS.out⟩ | rfl | exact ⟨by omega, HS.out⟩
    · intro w' hS
      refine OpTo.plain ?_ ?_
      exact rfl
      have HS := Lib.hid hS
      clear hS
      go_wp2_with fail
      all_goals first | exact HS.out | exact ⟨rfl, HS.out⟩ | rfl | exact ⟨by omega, HS.out⟩
    · intro w' hS
      refine OpTo.plain ?_ ?_
      exact rfl
      have HS := Lib.hid hS
      clear hS
      go_wp2_with fail
      all_goals first | exact HS.out | exact ⟨rfl, HS.out⟩ | rfl | exact ⟨by omega, HS.out⟩
    · intro w' hS
      refine OpTo.wanted ?_ ?_
      kernel_rfl
      have HS := Lib.hid hS
      clear hS
      go_wp2_with fail
      all_goals first | exact HS.out | exact ⟨rfl, HS.out⟩ | rfl | exact ⟨by omega, HS.out⟩
    · intro w' hS
      refine OpTo.wanted ?_ ?_
      kernel_rfl
      have d0_0 := (KX.out.below hS KX.out.lt).cell 0
      have d0_1 := (KX.out.below hS KX.out.lt).cell 1
      have d0_2 := (KX.out.below hS KX.out.lt).cell 2
      have d0_3 := (KX.out.below hS KX.out.lt).cell 3
      have d0_4 := (KX.out.below hS KX.out.lt).cell 4
      have d0_5 := (KX.out.below hS KX.out.lt).cell 5
      have d0_6 := (KX.out.below hS KX.out.lt).cell 6
      simp at d0_0 d0_1 d0_2 d0_3 d0_4 d0_5 d0_6
      have HS := Lib.hid hS
      clear hS
      go_wp2_with fail
      all_goals first | exact HS.out | exact ⟨rfl, HS.out⟩ | rfl | exact ⟨by omega, HS.out⟩
    · intro w' hS
      refine OpTo.wanted ?_ ?_
      kernel_rfl
      have HS := Lib.hid hS
      clear hS
      go_wp2_with fail
      all_goals first | exact HS.out | exact ⟨rfl, HS.out⟩ | rfl | exact ⟨by omega, HS.out⟩
    · intro w' hS
      refine OpTo.wanted ?_ ?_
      kernel_rfl
      have HS := Lib.hid hS
      clear hS
      go_wp2_with fail
      all_goals first | exact HS.out | exact ⟨rfl, HS.out⟩ | rfl | exact ⟨by omega, HS.out⟩
    · intro w' hS
      refine OpTo.plain ?_ ?_
      exact rfl
      have HS := Lib.hid hS
      clear hS
      go_wp2_with fail
      all_goals first | exact HS.out | exact ⟨rfl, HS.out⟩ | rfl | exact ⟨by omega, HS.out⟩
    · intro w' hS
      refine OpTo.plain ?_ ?_
      exact rfl
      have HS := Lib.hid hS
      clear hS
      go_wp2_with fail
      all_goals first | exact HS.out | exact ⟨rfl, HS.out⟩ | rfl | exact ⟨by omega, HS.out⟩
    · intro w' hS
      refine OpTo.wanted ?_ ?_
      kernel_rfl
      have HS := Lib.hid hS
      clear hS
      go_wp2_with fail
      all_goals first | exact HS.out | exact ⟨rfl, HS.out⟩ | rfl | exact ⟨by omega, HS.out⟩
    · intro w' hS
      refine OpTo.wanted ?_ ?_
      kernel_rfl
      have d0_0 := (KX.out.below hS KX.out.lt).cell 0
      have d0_1 := (KX.out.below hS KX.out.lt).cell 1
      have d0_2 := (KX.out.below hS KX.out.lt).cell 2
      have d0_3 := (KX.out.below hS KX.out.lt).cell 3
      have d0_4 := (KX.out.below hS KX.out.lt).cell 4
      have d0_5 := (KX.out.below hS KX.out.lt).cell 5
      have d0_6 := (KX.out.below hS KX.out.lt).cell 6
      simp at d0_0 d0_1 d0_2 d0_3 d0_4 d0_5 d0_6
      have HS := Lib.hid hS
      clear hS
      go_wp2_with fail
      all_goals first | exact HS.out | exact ⟨rfl, HS.out⟩ | rfl | exact ⟨by omega, HS.out⟩
    · intro w' hS
      refine OpTo.wanted ?_ ?_
      kernel_rfl
      have HS := Lib.hid hS
      clear hS
      go_wp2_with fail
      all_goals first | exact HS.out | exact ⟨rfl, HS.out⟩ | rfl | exact ⟨by omega, HS.out⟩
    · intro w' hS
      refine OpTo.wanted ?_ ?_
      kernel_rfl
      have HS := Lib.hid hS
      clear hS
      go_wp2_with fail
      all_goals first | exact HS.out | exact ⟨rfl, HS.out⟩ | rfl | exact ⟨by omega, HS.out⟩
    · intro w' hS
      refine OpTo.plain ?_ ?_
      exact rfl
      have HS := Lib.hid hS
      clear hS
      go_wp2_with fail
      all_goals first | exact HS.out | exact ⟨rfl, HS.out⟩ | rfl | exact ⟨by omega, HS.out⟩
  intro w6 b6
  exact HQ.out w6 b6
set_option maxHeartbeats 4000000 in
set_option maxRecDepth 100000 in
theorem bbest_24 {W : World} {b n cap X0 : Nat} {i c : Int} {x y : Of} (i1 : 1 ≤ i) (i2 : i < (n : Int)) (hn : n ≤ 1000) (HB : Hid (b < W.heap.size)) (Y5 : Hid (W.cell? ⟨b, (i.toNat - 1) * 7 + 5, none⟩ = some (.int .i64 y.nu))) (Y6 : Hid (W.cell? ⟨b, (i.toNat - 1) * 7 + 6, none⟩ = some (.int .i64 y.de))) (KX : Hid (Blk W X0 #[.int .u64 x.se, .int .u8 x.ow, .int .u8 x.sl, .int .u8 x.bu, .int .i64 x.lf, .int .i64 x.nu, .int .i64 x.de] 39)) (HC : Hid (∀ w', Calls Try.prog 36 #[.agg #[.int .i64 y.nu, .int .i64 y.de], .agg #[.int .i64 x.nu, .int .i64 x.de]] w' fun e w'' => e = .returned (.int .i64 c) ∧ Below w'.heap.size w' w'')) {Q : Exit → Act → World → Prop} {c0 c1 c2 c3 c4 c5 c6 c7 c8 c10 c11 c12 c15 c16 c17 c18 c19 c20 c21 c22 c23 c24 c25 c26 c27 c28 c29 c30 c31 c32 c33 c34 c35 c36 c37 c38 c39 c40 c41 c42 c43 c44 c45 c46 c47 c48 c49 c50 c51 c52 c53 c54 c55 c56 c57 c58 c59 c60 c61 c62 c63 c64 c65 c66 c67 c68 c69 c70 c71 c72 c73 c74 c75 c76 c77 c78 c79 c80 c81 c82 c83 c84 c85 c86 c87 c88 c89 c90 c91 c92 c93 c94 c95 c96 c97 c98 c99 c100 c101 c102 c103 c104 c105 c106 c107 c108 c109 c110 c111 c112 c113 c114 c115 c116 c117 c118 c119 c120 c121 c122 c123 c124 c125 c126 c127 c128 c129 c130 c131 c132 c133 c134 c135 c136 c137 c138 c139 c140 c141 c142 c143 c144 c145 c146 c147 c148 c149 c150 c151 c152 c153 c154 c155 c156 c157 c158 c159 c160 c161 c162 c163 c164 : Value}
    (hq : ∀ w6, (fun w' => Below W.heap.size W w') w6 → Q .normal ⟨#[c0, c1, c2, c3, c4, c5, c6, c7, c8, (.slice (some ⟨b, 0, none⟩) n cap), c10, c11, c12, (.int .i64 i), (.pointer (some ⟨X0, 0, none⟩)), c15, (.int .i64 c), c17, c18, c19, c20, c21, c22, c23, c24, c25, c26, c27, c28, c29, c30, c31, c32, c33, c34, c35, c36, c37, c38, c39, c40, c41, c42, c43, c44, c45, c46, c47, c48, c49, c50, c51, c52, c53, c54, c55, c56, c57, c58, c59, c60, c61, c62, c63, c64, c65, c66, c67, c68, c69, c70, c71, c72, c73, c74, c75, c76, c77, c78, c79, c80, c81, c82, c83, c84, c85, c86, c87, c88, c89, c90, c91, c92, c93, c94, c95, c96, c97, c98, c99, c100, c101, c102, c103, c104, c105, c106, c107, c108, c109, c110, c111, c112, c113, c114, c115, c116, c117, c118, c119, c120, c121, c122, c123, c124, c125, c126, c127, c128, c129, c130, c131, c132, c133, c134, c135, c136, c137, (.slice (some ⟨b, 0, none⟩) n cap), (.int .i64 i), (.int .i64 (i - 1)), (.pointer (some ⟨b, (i.toNat - 1) * 7, none⟩)), (.pointer (some ⟨b, (i.toNat - 1) * 7 + 5, none⟩)), (.agg #[.int .i64 y.nu, .int .i64 y.de]), (.pointer (some ⟨X0, 5, none⟩)), (.agg #[.int .i64 x.nu, .int .i64 x.de]), (.int .i64 c), c147, c148, c149, c150, c151, c152, c153, c154, c155, c156, c157, c158, c159, c160, c161, c162, c163, c164], []⟩ w6) :
    Code.wp Try.prog (((Try.f6.body).bind (regionNo 24)).getD .skip) Q ⟨#[c0, c1, c2, c3, c4, c5, c6, c7, c8, (.slice (some ⟨b, 0, none⟩) n cap), c10, c11, c12, (.int .i64 i), (.pointer (some ⟨X0, 0, none⟩)), c15, c16, c17, c18, c19, c20, c21, c22, c23, c24, c25, c26, c27, c28, c29, c30, c31, c32, c33, c34, c35, c36, c37, c38, c39, c40, c41, c42, c43, c44, c45, c46, c47, c48, c49, c50, c51, c52, c53, c54, c55, c56, c57, c58, c59, c60, c61, c62, c63, c64, c65, c66, c67, c68, c69, c70, c71, c72, c73, c74, c75, c76, c77, c78, c79, c80, c81, c82, c83, c84, c85, c86, c87, c88, c89, c90, c91, c92, c93, c94, c95, c96, c97, c98, c99, c100, c101, c102, c103, c104, c105, c106, c107, c108, c109, c110, c111, c112, c113, c114, c115, c116, c117, c118, c119, c120, c121, c122, c123, c124, c125, c126, c127, c128, c129, c130, c131, c132, c133, c134, c135, c136, c137, c138, c139, c140, c141, c142, c143, c144, c145, c146, c147, c148, c149, c150, c151, c152, c153, c154, c155, c156, c157, c158, c159, c160, c161, c162, c163, c164], []⟩ W := by
  conv => arg 2; whnf
  have HQ := Lib.hid hq
  clear hq
  refine region_still (by kernel_rfl) [(.slice (some ⟨b, 0, none⟩) n cap), (.int .i64 i), (.int .i64 (i - 1)), (.pointer (some ⟨b, (i.toNat - 1) * 7, none⟩)), (.pointer (some ⟨b, (i.toNat - 1) * 7 + 5, none⟩)), (.agg #[.int .i64 y.nu, .int .i64 y.de]), (.pointer (some ⟨X0, 5, none⟩)), (.agg #[.int .i64 x.nu, .int .i64 x.de]), (.int .i64 c), (.int .i64 c)]
    (fun w' => Below W.heap.size W w') (by kernel_rfl) (Below.refl _ _).drew ?_
  intro af haf
  simp only [List.toList_toArray, List.append_eq, List.cons_append, List.nil_append, puts, Act.put, List.getD_cons_zero, List.getD_cons_succ, List.setIfInBounds_toArray, List.set_cons_succ, List.set_cons_zero] at haf
  subst haf
  refine ⟨?_, ?_⟩
  · simp only [List.toList_toArray, List.append_eq, List.cons_append, List.nil_append, EachTo]
    refine ⟨?_, ?_, ?_, ?_, ?_, ?_, ?_, ?_, ?_, ?_, trivial⟩
    · intro w' hS
      refine OpTo.plain ?_ ?_
      exact rfl
      have HS := Lib.hid hS
      clear hS
      go_wp2_with fail
      all_goals first | exact HS.out | exact ⟨rfl, HS.out⟩ | rfl | exact ⟨by omega, HS.out⟩
    · intro w' hS
      refine OpTo.plain ?_ ?_
      exact rfl
      have HS := Lib.hid hS
      clear hS
      go_wp2_with fail
      all_goals first | exact HS.out | exact ⟨rfl, HS.out⟩ | rfl | exact ⟨by omega, HS.out⟩
    · intro w' hS
      refine OpTo.plain ?_ ?_
      exact rfl
      have HS := Lib.hid hS
      clear hS
      go_wp2_with fail
      all_goals first | exact HS.out | exact ⟨rfl, HS.out⟩ | rfl | exact ⟨by omega, HS.out⟩
    · intro w' hS
      refine OpTo.plain ?_ ?_
      exact rfl
      have HS := Lib.hid hS
      clear hS
      go_wp2_with fail
      all_goals first | exact HS.out | exact ⟨rfl, HS.out⟩ | rfl | exact ⟨by omega, HS.out⟩
    · intro w' hS
      refine OpTo.plain ?_ ?_
      exact rfl
      have HS := Lib.hid hS
      clear hS
      go_wp2_with fail
      all_goals first | exact HS.out | exact ⟨rfl, HS.out⟩ | rfl | exact ⟨by omega, HS.out⟩
    · intro w' hS
      refine OpTo.plain ?_ ?_
      exact rfl
      have hlt := Nat.lt_of_lt_of_le HB.out hS.size
      have y5 := (hS.cell (p := ⟨b, (i.toNat - 1) * 7 + 5, none⟩) HB.out).trans Y5.out
      have y6 := (hS.cell (p := ⟨b, (i.toNat - 1) * 7 + 6, none⟩) HB.out).trans Y6.out
      have HS := Lib.hid hS
      clear hS
      go_wp2_with fail
      all_goals first | exact HS.out | exact ⟨rfl, HS.out⟩ | rfl | exact ⟨by omega, HS.out⟩
    · intro w' hS
      refine OpTo.plain ?_ ?_
      exact rfl
      have HS := Lib.hid hS
      clear hS
      go_wp2_with fail
      all_goals first | exact HS.out | exact ⟨rfl, HS.out⟩ | rfl | exact ⟨by omega, HS.out⟩
    · intro w' hS
      refine OpTo.plain ?_ ?_
      exact rfl
      have d0_0 := (KX.out.below hS KX.out.lt).cell 0
      have d0_1 := (KX.out.below hS KX.out.lt).cell 1
      have d0_2 := (KX.out.below hS KX.out.lt).cell 2
      have d0_3 := (KX.out.below hS KX.out.lt).cell 3
      have d0_4 := (KX.out.below hS KX.out.lt).cell 4
      have d0_5 := (KX.out.below hS KX.out.lt).cell 5
      have d0_6 := (KX.out.below hS KX.out.lt).cell 6
      simp at d0_0 d0_1 d0_2 d0_3 d0_4 d0_5 d0_6
      have HS := Lib.hid hS
      clear hS
      go_wp2_with fail
      all_goals first | exact HS.out | exact ⟨rfl, HS.out⟩ | rfl | exact ⟨by omega, HS.out⟩
    · intro w' hS
      refine OpTo.plain ?_ ?_
      exact rfl
      have HS := Lib.hid hS
      clear hS
      go_wp2_with fail
      refine (HC.out w').mono ?_
      rintro e w'' ⟨rfl, hb2⟩
      exact ⟨rfl, andB HS.out hb2⟩
    · intro w' hS
      refine OpTo.plain ?_ ?_
      exact rfl
      have HS := Lib.hid hS
      clear hS
      go_wp2_with fail
      all_goals first | exact HS.out | exact ⟨rfl, HS.out⟩ | rfl | exact ⟨by omega, HS.out⟩
  intro w6 b6
  exact HQ.out w6 b6
set_option maxHeartbeats 4000000 in
set_option maxRecDepth 100000 in
theorem bbest_25n {W : World} {c : Int} (c1 : decide (0 < c) = false) (c2 : (c == 0) = false) {Q : Exit → Act → World → Prop} {c0 c1 c2 c3 c4 c5 c6 c7 c8 c9 c10 c11 c12 c13 c14 c15 c17 c18 c19 c20 c21 c22 c23 c24 c25 c26 c27 c28 c29 c30 c31 c32 c33 c34 c35 c36 c37 c38 c39 c40 c41 c42 c43 c44 c45 c46 c47 c48 c49 c50 c51 c52 c53 c54 c55 c56 c57 c58 c59 c60 c61 c62 c63 c64 c65 c66 c67 c68 c69 c70 c71 c72 c73 c74 c75 c76 c77 c78 c79 c80 c81 c82 c83 c84 c85 c86 c87 c88 c89 c90 c91 c92 c93 c94 c95 c96 c97 c98 c99 c100 c101 c102 c103 c104 c105 c106 c107 c108 c109 c110 c111 c112 c113 c114 c115 c116 c117 c118 c119 c120 c121 c122 c123 c124 c125 c126 c127 c128 c129 c130 c131 c132 c133 c134 c135 c136 c137 c138 c139 c140 c141 c142 c143 c144 c145 c146 c147 c148 c149 c150 c151 c152 c153 c154 c155 c156 c157 c158 c159 c160 c161 c162 c163 c164 : Value}
    (hq : ∀ w6, (fun w' => Below W.heap.size W w') w6 → Q .normal ⟨#[c0, c1, c2, c3, c4, c5, c6, c7, c8, c9, c10, c11, c12, c13, c14, c15, (.int .i64 c), c17, c18, c19, c20, c21, c22, c23, c24, c25, c26, c27, c28, c29, c30, c31, c32, c33, c34, c35, c36, c37, c38, c39, c40, c41, c42, c43, c44, c45, c46, c47, c48, c49, c50, c51, c52, c53, c54, c55, c56, c57, c58, c59, c60, c61, c62, c63, c64, c65, c66, c67, c68, c69, c70, c71, c72, c73, c74, c75, c76, c77, c78, c79, c80, c81, c82, c83, c84, c85, c86, c87, c88, c89, c90, c91, c92, c93, c94, c95, c96, c97, c98, c99, c100, c101, c102, c103, c104, c105, c106, c107, c108, c109, c110, c111, c112, c113, c114, c115, c116, c117, c118, c119, c120, c121, c122, c123, c124, c125, c126, c127, c128, c129, c130, c131, c132, c133, c134, c135, c136, c137, c138, c139, c140, c141, c142, c143, c144, c145, c146, (.int .i64 c), (.bool false), (.bool false), (.int .i64 c), (.bool false), (.bool false), undef, undef, undef, undef, undef, undef, undef, undef, undef, (.bool false), (.bool false), c164], []⟩ w6) :
    Code.wp Try.prog (((Try.f6.body).bind (regionNo 25)).getD .skip) Q ⟨#[c0, c1, c2, c3, c4, c5, c6, c7, c8, c9, c10, c11, c12, c13, c14, c15, (.int .i64 c), c17, c18, c19, c20, c21, c22, c23, c24, c25, c26, c27, c28, c29, c30, c31, c32, c33, c34, c35, c36, c37, c38, c39, c40, c41, c42, c43, c44, c45, c46, c47, c48, c49, c50, c51, c52, c53, c54, c55, c56, c57, c58, c59, c60, c61, c62, c63, c64, c65, c66, c67, c68, c69, c70, c71, c72, c73, c74, c75, c76, c77, c78, c79, c80, c81, c82, c83, c84, c85, c86, c87, c88, c89, c90, c91, c92, c93, c94, c95, c96, c97, c98, c99, c100, c101, c102, c103, c104, c105, c106, c107, c108, c109, c110, c111, c112, c113, c114, c115, c116, c117, c118, c119, c120, c121, c122, c123, c124, c125, c126, c127, c128, c129, c130, c131, c132, c133, c134, c135, c136, c137, c138, c139, c140, c141, c142, c143, c144, c145, c146, c147, c148, c149, c150, c151, c152, c153, c154, c155, c156, c157, c158, c159, c160, c161, c162, c163, c164], []⟩ W := by
  conv => arg 2; whnf
  have HQ := Lib.hid hq
  clear hq
  refine region_still (by kernel_rfl) [(.int .i64 c), (.bool false), (.bool false), (.int .i64 c), (.bool false), (.bool false), undef, undef, undef, undef, undef, undef, undef, undef, undef, (.bool false), (.bool false)]
    (fun w' => Below W.heap.size W w') (by kernel_rfl) (Below.refl _ _).drew ?_
  intro af haf
  simp only [List.toList_toArray, List.append_eq, List.cons_append, List.nil_append, puts, Act.put, List.getD_cons_zero, List.getD_cons_succ, List.setIfInBounds_toArray, List.set_cons_succ, List.set_cons_zero] at haf
  subst haf
  refine ⟨?_, ?_⟩
  · simp only [List.toList_toArray, List.append_eq, List.cons_append, List.nil_append, EachTo]
    refine ⟨?_, ?_, ?_, ?_, ?_, ?_, ?_, ?_, ?_, ?_, ?_, ?_, ?_, ?_, ?_, ?_, ?_, trivial⟩
    · intro w' hS
      refine OpTo.plain ?_ ?_
      exact rfl
      have HS := Lib.hid hS
      clear hS
      go_wp2_with fail
      all_goals first | exact HS.out | exact ⟨rfl, HS.out⟩ | rfl | exact ⟨by omega, HS.out⟩
    · intro w' hS
      refine OpTo.plain ?_ ?_
      exact rfl
      have HS := Lib.hid hS
      clear hS
      go_wp2_with fail
      all_goals first | exact HS.out | exact ⟨rfl, HS.out⟩ | rfl | exact ⟨by omega, HS.out⟩
    · intro w' hS
      refine OpTo.plain ?_ ?_
      exact rfl
      have HS := Lib.hid hS
      clear hS
      go_wp2_with fail
      all_goals first | exact HS.out | exact ⟨rfl, HS.out⟩ | rfl | exact ⟨by omega, HS.out⟩
    · intro w' hS
      refine OpTo.wanted ?_ ?_
      kernel_rfl
      have HS := Lib.hid hS
      clear hS
      go_wp2_with fail
      all_goals first | exact HS.out | exact ⟨rfl, HS.out⟩ | rfl | exact ⟨by omega, HS.out⟩
    · intro w' hS
      refine OpTo.wanted ?_ ?_
      kernel_rfl
      have HS := Lib.hid hS
      clear hS
      go_wp2_with fail
      all_goals first | exact HS.out | exact ⟨rfl, HS.out⟩ | rfl | exact ⟨by omega, HS.out⟩
    · intro w' hS
      refine OpTo.wanted ?_ ?_
      kernel_rfl
      have HS := Lib.hid hS
      clear hS
      go_wp2_with fail
      all_goals first | exact HS.out | exact ⟨rfl, HS.out⟩ | rfl | exact ⟨by omega, HS.out⟩
    · intro w' hS
      refine OpTo.passed (by kernel_rfl) rfl hS
    · intro w' hS
      refine OpTo.passed (by kernel_rfl) rfl hS
    · intro w' hS
      refine OpTo.passed (by kernel_rfl) rfl hS
    · intro w' hS
      refine OpTo.passed (by kernel_rfl) rfl hS
    · intro w' hS
      refine OpTo.passed (by kernel_rfl) rfl hS
    · intro w' hS
      refine OpTo.passed (by kernel_rfl) rfl hS
    · intro w' hS
      refine OpTo.passed (by kernel_rfl) rfl hS
    · intro w' hS
      refine OpTo.passed (by kernel_rfl) rfl hS
    · intro w' hS
      refine OpTo.passed (by kernel_rfl) rfl hS
    · intro w' hS
      refine OpTo.wanted ?_ ?_
      kernel_rfl
      have HS := Lib.hid hS
      clear hS
      go_wp2_with fail
      all_goals first | exact HS.out | exact ⟨rfl, HS.out⟩ | rfl | exact ⟨by omega, HS.out⟩
    · intro w' hS
      refine OpTo.plain ?_ ?_
      exact rfl
      have HS := Lib.hid hS
      clear hS
      go_wp2_with fail
      all_goals first | exact HS.out | exact ⟨rfl, HS.out⟩ | rfl | exact ⟨by omega, HS.out⟩
  intro w6 b6
  exact HQ.out w6 b6
set_option maxHeartbeats 4000000 in
set_option maxRecDepth 100000 in
theorem bbest_25z {W : World} {b n cap X0 : Nat} {i c : Int} {x y : Of} (c1 : decide (0 < c) = false) (c2 : (c == 0) = true) (i1 : 1 ≤ i) (i2 : i < (n : Int)) (hn : n ≤ 1000) (HB : Hid (b < W.heap.size)) (Y0 : Hid (W.cell? ⟨b, (i.toNat - 1) * 7, none⟩ = some (.int .u64 y.se))) (KX : Hid (Blk W X0 #[.int .u64 x.se, .int .u8 x.ow, .int .u8 x.sl, .int .u8 x.bu, .int .i64 x.lf, .int .i64 x.nu, .int .i64 x.de] 39)) (c3 : decide (x.se ≤ y.se) = false) {Q : Exit → Act → World → Prop} {c0 c1 c2 c3 c4 c5 c6 c7 c8 c10 c11 c12 c15 c17 c18 c19 c20 c21 c22 c23 c24 c25 c26 c27 c28 c29 c30 c31 c32 c33 c34 c35 c36 c37 c38 c39 c40 c41 c42 c43 c44 c45 c46 c47 c48 c49 c50 c51 c52 c53 c54 c55 c56 c57 c58 c59 c60 c61 c62 c63 c64 c65 c66 c67 c68 c69 c70 c71 c72 c73 c74 c75 c76 c77 c78 c79 c80 c81 c82 c83 c84 c85 c86 c87 c88 c89 c90 c91 c92 c93 c94 c95 c96 c97 c98 c99 c100 c101 c102 c103 c104 c105 c106 c107 c108 c109 c110 c111 c112 c113 c114 c115 c116 c117 c118 c119 c120 c121 c122 c123 c124 c125 c126 c127 c128 c129 c130 c131 c132 c133 c134 c135 c136 c137 c138 c139 c140 c141 c142 c143 c144 c145 c146 c147 c148 c149 c150 c151 c152 c153 c154 c155 c156 c157 c158 c159 c160 c161 c162 c163 c164 : Value}
    (hq : ∀ w6, (fun w' => Below W.heap.size W w') w6 → Q .normal ⟨#[c0, c1, c2, c3, c4, c5, c6, c7, c8, (.slice (some ⟨b, 0, none⟩) n cap), c10, c11, c12, (.int .i64 i), (.pointer (some ⟨X0, 0, none⟩)), c15, (.int .i64 c), c17, c18, c19, c20, c21, c22, c23, c24, c25, c26, c27, c28, c29, c30, c31, c32, c33, c34, c35, c36, c37, c38, c39, c40, c41, c42, c43, c44, c45, c46, c47, c48, c49, c50, c51, c52, c53, c54, c55, c56, c57, c58, c59, c60, c61, c62, c63, c64, c65, c66, c67, c68, c69, c70, c71, c72, c73, c74, c75, c76, c77, c78, c79, c80, c81, c82, c83, c84, c85, c86, c87, c88, c89, c90, c91, c92, c93, c94, c95, c96, c97, c98, c99, c100, c101, c102, c103, c104, c105, c106, c107, c108, c109, c110, c111, c112, c113, c114, c115, c116, c117, c118, c119, c120, c121, c122, c123, c124, c125, c126, c127, c128, c129, c130, c131, c132, c133, c134, c135, c136, c137, c138, c139, c140, c141, c142, c143, c144, c145, c146, (.int .i64 c), (.bool false), (.bool false), (.int .i64 c), (.bool true), (.bool true), (.slice (some ⟨b, 0, none⟩) n cap), (.int .i64 i), (.int .i64 (i - 1)), (.pointer (some ⟨b, (i.toNat - 1) * 7, none⟩)), (.pointer (some ⟨b, (i.toNat - 1) * 7, none⟩)), (.int .u64 y.se), (.pointer (some ⟨X0, 0, none⟩)), (.int .u64 x.se), (.bool false), (.bool false), (.bool false), c164], []⟩ w6) :
    Code.wp Try.prog (((Try.f6.body).bind (regionNo 25)).getD .skip) Q ⟨#[c0, c1, c2, c3, c4, c5, c6, c7, c8, (.slice (some ⟨b, 0, none⟩) n cap), c10, c11, c12, (.int .i64 i), (.pointer (some ⟨X0, 0, none⟩)), c15, (.int .i64 c), c17, c18, c19, c20, c21, c22, c23, c24, c25, c26, c27, c28, c29, c30, c31, c32, c33, c34, c35, c36, c37, c38, c39, c40, c41, c42, c43, c44, c45, c46, c47, c48, c49, c50, c51, c52, c53, c54, c55, c56, c57, c58, c59, c60, c61, c62, c63, c64, c65, c66, c67, c68, c69, c70, c71, c72, c73, c74, c75, c76, c77, c78, c79, c80, c81, c82, c83, c84, c85, c86, c87, c88, c89, c90, c91, c92, c93, c94, c95, c96, c97, c98, c99, c100, c101, c102, c103, c104, c105, c106, c107, c108, c109, c110, c111, c112, c113, c114, c115, c116, c117, c118, c119, c120, c121, c122, c123, c124, c125, c126, c127, c128, c129, c130, c131, c132, c133, c134, c135, c136, c137, c138, c139, c140, c141, c142, c143, c144, c145, c146, c147, c148, c149, c150, c151, c152, c153, c154, c155, c156, c157, c158, c159, c160, c161, c162, c163, c164], []⟩ W := by
  conv => arg 2; whnf
  have HQ := Lib.hid hq
  clear hq
  refine region_still (by kernel_rfl) [(.int .i64 c), (.bool false), (.bool false), (.int .i64 c), (.bool true), (.bool true), (.slice (some ⟨b, 0, none⟩) n cap), (.int .i64 i), (.int .i64 (i - 1)), (.pointer (some ⟨b, (i.toNat - 1) * 7, none⟩)), (.pointer (some ⟨b, (i.toNat - 1) * 7, none⟩)), (.int .u64 y.se), (.pointer (some ⟨X0, 0, none⟩)), (.int .u64 x.se), (.bool false), (.bool false), (.bool false)]
    (fun w' => Below W.heap.size W w') (by kernel_rfl) (Below.refl _ _).drew ?_
  intro af haf
  simp only [List.toList_toArray, List.append_eq, List.cons_append, List.nil_append, puts, Act.put, List.getD_cons_zero, List.getD_cons_succ, List.setIfInBounds_toArray, List.set_cons_succ, List.set_cons_zero] at haf
  subst haf
  refine ⟨?_, ?_⟩
  · simp only [List.toList_toArray, List.append_eq, List.cons_append, List.nil_append, EachTo]
    refine ⟨?_, ?_, ?_, ?_, ?_, ?_, ?_, ?_, ?_, ?_, ?_, ?_, ?_, ?_, ?_, ?_, ?_, trivial⟩
    · intro w' hS
      refine OpTo.plain ?_ ?_
      exact rfl
      have HS := Lib.hid hS
      clear hS
      go_wp2_with fail
      all_goals first | exact HS.out | exact ⟨rfl, HS.out⟩ | rfl | exact ⟨by omega, HS.out⟩
    · intro w' hS
      refine OpTo.plain ?_ ?_
      exact rfl
      have HS := Lib.hid hS
      clear hS
      go_wp2_with fail
      all_goals first | exact HS.out | exact ⟨rfl, HS.out⟩ | rfl | exact ⟨by omega, HS.out⟩
    · intro w' hS
      refine OpTo.plain ?_ ?_
      exact rfl
      have HS := Lib.hid hS
      clear hS
      go_wp2_with fail
      all_goals first | exact HS.out | exact ⟨rfl, HS.out⟩ | rfl | exact ⟨by omega, HS.out⟩
    · intro w' hS
      refine OpTo.wanted ?_ ?_
      kernel_rfl
      have HS := Lib.hid hS
      clear hS
      go_wp2_with fail
      all_goals first | exact HS.out | exact ⟨rfl, HS.out⟩ | rfl | exact ⟨by omega, HS.out⟩
    · intro w' hS
      refine OpTo.wanted ?_ ?_
      kernel_rfl
      have HS := Lib.hid hS
      clear hS
      go_wp2_with fail
      all_goals first | exact HS.out | exact ⟨rfl, HS.out⟩ | rfl | exact ⟨by omega, HS.out⟩
    · intro w' hS
      refine OpTo.wanted ?_ ?_
      kernel_rfl
      have HS := Lib.hid hS
      clear hS
      go_wp2_with fail
      all_goals first | exact HS.out | exact ⟨rfl, HS.out⟩ | rfl | exact ⟨by omega, HS.out⟩
    · intro w' hS
      refine OpTo.wanted ?_ ?_
      kernel_rfl
      have HS := Lib.hid hS
      clear hS
      go_wp2_with fail
      all_goals first | exact HS.out | exact ⟨rfl, HS.out⟩ | rfl | exact ⟨by omega, HS.out⟩
    · intro w' hS
      refine OpTo.wanted ?_ ?_
      kernel_rfl
      have HS := Lib.hid hS
      clear hS
      go_wp2_with fail
      all_goals first | exact HS.out | exact ⟨rfl, HS.out⟩ | rfl | exact ⟨by omega, HS.out⟩
    · intro w' hS
      refine OpTo.wanted ?_ ?_
      kernel_rfl
      have HS := Lib.hid hS
      clear hS
      go_wp2_with fail
      all_goals first | exact HS.out | exact ⟨rfl, HS.out⟩ | rfl | exact ⟨by omega, HS.out⟩
    · intro w' hS
      refine OpTo.wanted ?_ ?_
      kernel_rfl
      have HS := Lib.hid hS
      clear hS
      go_wp2_with fail
      all_goals first | exact HS.out | exact ⟨rfl, HS.out⟩ | rfl | exact ⟨by omega, HS.out⟩
    · intro w' hS
      refine OpTo.wanted ?_ ?_
      kernel_rfl
      have HS := Lib.hid hS
      clear hS
      go_wp2_with fail
      all_goals first | exact HS.out | exact ⟨rfl, HS.out⟩ | rfl | exact ⟨by omega, HS.out⟩
    · intro w' hS
      refine OpTo.wanted ?_ ?_
      kernel_rfl
      have hlt := Nat.lt_of_lt_of_le HB.out hS.size
      have y0 := (hS.cell (p := ⟨b, (i.toNat - 1) * 7, none⟩) HB.out).trans Y0.out
      have HS := Lib.hid hS
      clear hS
      go_wp2_with fail
      all_goals first | exact HS.out | exact ⟨rfl, HS.out⟩ | rfl | exact ⟨by omega, HS.out⟩
    · intro w' hS
      refine OpTo.wanted ?_ ?_
      kernel_rfl
      have HS := Lib.hid hS
      clear hS
      go_wp2_with fail
      all_goals first | exact HS.out | exact ⟨rfl, HS.out⟩ | rfl | exact ⟨by omega, HS.out⟩
    · intro w' hS
      refine OpTo.wanted ?_ ?_
      kernel_rfl
      have d0_0 := (KX.out.below hS KX.out.lt).cell 0
      have d0_1 := (KX.out.below hS KX.out.lt).cell 1
      have d0_2 := (KX.out.below hS KX.out.lt).cell 2
      have d0_3 := (KX.out.below hS KX.out.lt).cell 3
      have d0_4 := (KX.out.below hS KX.out.lt).cell 4
      have d0_5 := (KX.out.below hS KX.out.lt).cell 5
      have d0_6 := (KX.out.below hS KX.out.lt).cell 6
      simp at d0_0 d0_1 d0_2 d0_3 d0_4 d0_5 d0_6
      have HS := Lib.hid hS
      clear hS
      go_wp2_with fail
      all_goals first | exact HS.out | exact ⟨rfl, HS.out⟩ | rfl | exact ⟨by omega, HS.out⟩
    · intro w' hS
      refine OpTo.wanted ?_ ?_
      kernel_rfl
      have HS := Lib.hid hS
      clear hS
      go_wp2_with fail
      all_goals first | exact HS.out | exact ⟨rfl, HS.out⟩ | rfl | exact ⟨by omega, HS.out⟩
    · intro w' hS
      refine OpTo.wanted ?_ ?_
      kernel_rfl
      have HS := Lib.hid hS
      clear hS
      go_wp2_with fail
      all_goals first | exact HS.out | exact ⟨rfl, HS.out⟩ | rfl | exact ⟨by omega, HS.out⟩
    · intro w' hS
      refine OpTo.plain ?_ ?_
      exact rfl
      have HS := Lib.hid hS
      clear hS
      go_wp2_with fail
      all_goals first | exact HS.out | exact ⟨rfl, HS.out⟩ | rfl | exact ⟨by omega, HS.out⟩
  intro w6 b6
  exact HQ.out w6 b6

end Go.Proofs.Ytdbdeodcldogmaa
