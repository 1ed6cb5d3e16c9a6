/-
  LedgersPlay: the walk, for every acts.
-/
import Derived.Test.YtlcilpeljnoclaaDoes
import Derived.Test.YtlcilpeljnoclaaLawSame
import Derived.Test.YtlcilpeljnoclaaPLed11
import Derived.Test.YtlcilpeljnoclaaLives03
import Derived.Test.YtlcilpeljnoclaaBook4
import Derived.Test.YtlcilpeljnoclaaRef03f
namespace Go.Proofs.Ytlcilpeljnoclaa
open Go.RowKit
set_option linter.unusedSimpArgs false
set_option linter.unusedVariables false

theorem LInv.len17 {ps : List Int} {ls : List Ln} (h : LInv ps ls) : ps.length ≤ 17 := by
  have h1 := open_all h.bd h.rise
  have h2 := openTo_len ps 0 17
  rw [h1] at h2
  omega
theorem calls_still {P : Program} {f : FuncId} {args : Array Value} {w : World} {v : Ending} (h : Calls P f args w fun e w' => e = v ∧ w' = w) : Calls P f args w fun e w' => e = v ∧ Below w.heap.size w w' := h.mono fun e w' h => ⟨h.1, by rw [h.2]; exact Below.refl _ _⟩
theorem calls_still2 {P : Program} {f : FuncId} {args : Array Value} {w : World} {v : Ending} (h : Calls P f args w fun e w' => e = v ∧ w = w') : Calls P f args w fun e w' => e = v ∧ Below w.heap.size w w' := h.mono fun e w' h => ⟨h.1, by rw [← h.2]; exact Below.refl _ _⟩
set_option maxHeartbeats 8000000 in
set_option maxRecDepth 100000 in
theorem play_r18 {W : World} {G r X Y Z : Nat} {x : Ac} {y : Ln} {s hs : Bool} {rm po tt : Int} (KX : Hid (Blk W X #[.int .u8 x.k, .int .u8 x.a, .int .u8 x.b, .int .u8 x.c, .int .i64 x.n] 31)) (KY : Hid (Blk W Y #[.int .u8 y.cr, .int .u8 y.de, .int .u8 y.cu, .int .i64 y.li, .int .i64 y.db] 35)) (KZ : Hid (Blk W Z #[.int .u8 y.cr, .int .u8 y.de, .int .u8 y.cu, .int .i64 y.li, .int .i64 y.db] 35)) (Croom : Hid (∀ w', Below W.heap.size W w' → Calls Try.prog 18 #[.pointer (some ⟨G, 0, none⟩), .int .u8 x.a, .int .u8 x.b, .int .u8 x.c] w' fun e w'' => e = .returned (.int .i64 rm) ∧ Below w'.heap.size w' w'')) (Droom : Hid (∀ w', Below W.heap.size W w' → Calls Try.prog 19 #[.pointer (some ⟨r, 0, none⟩), .int .u8 x.a, .int .u8 x.b, .int .u8 x.c] w' fun e w'' => e = .returned (.int .i64 rm) ∧ Below w'.heap.size w' w'')) (Cpos : Hid (∀ w', Below W.heap.size W w' → Calls Try.prog 20 #[.pointer (some ⟨G, 0, none⟩), .int .u8 x.a, .int .u8 x.c] w' fun e w'' => e = .returned (.int .i64 po) ∧ Below w'.heap.size w' w'')) (Dpos : Hid (∀ w', Below W.heap.size W w' → Calls Try.prog 21 #[.pointer (some ⟨r, 0, none⟩), .int .u8 x.a, .int .u8 x.c] w' fun e w'' => e = .returned (.int .i64 po) ∧ Below w'.heap.size w' w'')) (Ctot : Hid (∀ w', Below W.heap.size W w' → Calls Try.prog 22 #[.pointer (some ⟨G, 0, none⟩), .int .u8 x.c] w' fun e w'' => e = .returned (.int .i64 tt) ∧ Below w'.heap.size w' w'')) (Dtot : Hid (∀ w', Below W.heap.size W w' → Calls Try.prog 23 #[.pointer (some ⟨r, 0, none⟩), .int .u8 x.c] w' fun e w'' => e = .returned (.int .i64 tt) ∧ Below w'.heap.size w' w'')) (Chas : Hid (∀ w', Below W.heap.size W w' → Calls Try.prog 24 #[.pointer (some ⟨G, 0, none⟩), .int .u8 x.a] w' fun e w'' => e = .returned (.bool hs) ∧ Below w'.heap.size w' w'')) (Dhas : Hid (∀ w', Below W.heap.size W w' → Calls Try.prog 25 #[.pointer (some ⟨r, 0, none⟩), .int .u8 x.a] w' fun e w'' => e = .returned (.bool hs) ∧ Below w'.heap.size w' w'')) {Q : Exit → Act → World → Prop} {c0 c1 c2 c5 c6 c7 c13 c14 c15 c16 c17 c18 c19 c20 c21 c22 c23 c24 c25 c26 c27 c28 c29 c30 c31 c32 c33 c34 c35 c36 c37 c38 c39 c40 c41 c42 c43 c44 c45 c46 c47 c48 c49 c50 c51 c52 c53 c54 c55 c56 c57 c58 c59 c60 c61 c62 c63 c64 c65 c66 c67 c68 c69 c70 c71 c72 c73 c74 c75 c76 c77 c78 c79 c80 c81 c82 c83 c84 c85 c86 c87 c88 c89 c90 c91 c92 c93 c94 c95 c96 c97 c98 c99 c100 c101 c102 c103 c104 c105 c106 c107 c108 c109 c110 c111 c112 c113 c114 c115 c116 c117 c118 c119 c120 c121 c122 c123 c124 c125 c126 c127 c128 c129 c130 c131 c132 c133 c134 c135 c136 c137 c138 c139 c140 c141 c142 c143 c144 c145 c146 c147 c148 c149 c150 c151 c152 c153 c154 c155 c156 c157 c158 c159 c160 c161 c162 c163 c164 : Value}
    (hq : ∀ w6, (fun w' => Below W.heap.size W w') w6 → Q .normal ⟨#[c0, c1, c2, (.pointer (some ⟨G, 0, none⟩)), (.pointer (some ⟨r, 0, none⟩)), c5, c6, c7, (.pointer (some ⟨X, 0, none⟩)), (.pointer (some ⟨Y, 0, none⟩)), (.bool s), (.pointer (some ⟨Z, 0, none⟩)), (.bool s), c13, c14, c15, c16, c17, c18, c19, c20, c21, c22, c23, c24, c25, c26, c27, c28, c29, c30, c31, c32, c33, c34, c35, c36, c37, c38, c39, c40, c41, c42, c43, c44, c45, c46, c47, c48, c49, c50, c51, c52, c53, c54, c55, c56, c57, c58, c59, c60, c61, c62, c63, c64, c65, c66, c67, c68, c69, c70, (.agg #[.int .u8 y.cr, .int .u8 y.de, .int .u8 y.cu, .int .i64 y.li, .int .i64 y.db]), (.agg #[.int .u8 y.cr, .int .u8 y.de, .int .u8 y.cu, .int .i64 y.li, .int .i64 y.db]), (.bool false), (.bool false), (.bool s), (.bool s), (.bool false), (.bool false), (.bool false), (.pointer (some ⟨G, 0, none⟩)), (.pointer (some ⟨X, 1, none⟩)), (.int .u8 x.a), (.pointer (some ⟨X, 2, none⟩)), (.int .u8 x.b), (.pointer (some ⟨X, 3, none⟩)), (.int .u8 x.c), (.int .i64 rm), (.pointer (some ⟨r, 0, none⟩)), (.pointer (some ⟨X, 1, none⟩)), (.int .u8 x.a), (.pointer (some ⟨X, 2, none⟩)), (.int .u8 x.b), (.pointer (some ⟨X, 3, none⟩)), (.int .u8 x.c), (.int .i64 rm), (.bool false), (.bool false), (.bool false), (.pointer (some ⟨G, 0, none⟩)), (.pointer (some ⟨X, 1, none⟩)), (.int .u8 x.a), (.pointer (some ⟨X, 3, none⟩)), (.int .u8 x.c), (.int .i64 po), (.pointer (some ⟨r, 0, none⟩)), (.pointer (some ⟨X, 1, none⟩)), (.int .u8 x.a), (.pointer (some ⟨X, 3, none⟩)), (.int .u8 x.c), (.int .i64 po), (.bool false), (.bool false), (.bool false), (.pointer (some ⟨G, 0, none⟩)), (.pointer (some ⟨X, 3, none⟩)), (.int .u8 x.c), (.int .i64 tt), (.pointer (some ⟨r, 0, none⟩)), (.pointer (some ⟨X, 3, none⟩)), (.int .u8 x.c), (.int .i64 tt), (.bool false), (.bool false), (.bool false), (.pointer (some ⟨G, 0, none⟩)), (.pointer (some ⟨X, 1, none⟩)), (.int .u8 x.a), (.bool hs), (.pointer (some ⟨r, 0, none⟩)), (.pointer (some ⟨X, 1, none⟩)), (.int .u8 x.a), (.bool hs), (.bool false), (.bool false), c135, c136, c137, c138, c139, c140, c141, c142, c143, c144, c145, c146, c147, c148, c149, c150, c151, c152, c153, c154, c155, c156, c157, c158, c159, c160, c161, c162, c163, c164], []⟩ w6) :
    Code.wp Try.prog (((Try.f3.body).bind (regionNo 18)).getD .skip) Q ⟨#[c0, c1, c2, (.pointer (some ⟨G, 0, none⟩)), (.pointer (some ⟨r, 0, none⟩)), c5, c6, c7, (.pointer (some ⟨X, 0, none⟩)), (.pointer (some ⟨Y, 0, none⟩)), (.bool s), (.pointer (some ⟨Z, 0, none⟩)), (.bool s), c13, c14, c15, c16, c17, c18, c19, c20, c21, c22, c23, c24, c25, c26, c27, c28, c29, c30, c31, c32, c33, c34, c35, c36, c37, c38, c39, c40, c41, c42, c43, c44, c45, c46, c47, c48, c49, c50, c51, c52, c53, c54, c55, c56, c57, c58, c59, c60, c61, c62, c63, c64, c65, c66, c67, c68, c69, c70, c71, c72, c73, c74, c75, c76, c77, c78, c79, c80, c81, c82, c83, c84, c85, c86, c87, c88, c89, c90, c91, c92, c93, c94, c95, c96, c97, c98, c99, c100, c101, c102, c103, c104, c105, c106, c107, c108, c109, c110, c111, c112, c113, c114, c115, c116, c117, c118, c119, c120, c121, c122, c123, c124, c125, c126, c127, c128, c129, c130, c131, c132, c133, c134, c135, c136, c137, c138, c139, c140, c141, c142, c143, c144, c145, c146, c147, c148, c149, c150, c151, c152, c153, c154, c155, c156, c157, c158, c159, c160, c161, c162, c163, c164], []⟩ W := by
  conv => arg 2; whnf
  have HQ := Lib.hid hq
  clear hq
  refine region_still (by kernel_rfl) [(.agg #[.int .u8 y.cr, .int .u8 y.de, .int .u8 y.cu, .int .i64 y.li, .int .i64 y.db]), (.agg #[.int .u8 y.cr, .int .u8 y.de, .int .u8 y.cu, .int .i64 y.li, .int .i64 y.db]), (.bool false), (.bool false), (.bool s), (.bool s), (.bool false), (.bool false), (.bool false), (.pointer (some ⟨G, 0, none⟩)), (.pointer (some ⟨X, 1, none⟩)), (.int .u8 x.a), (.pointer (some ⟨X, 2, none⟩)), (.int .u8 x.b), (.pointer (some ⟨X, 3, none⟩)), (.int .u8 x.c), (.int .i64 rm), (.pointer (some ⟨r, 0, none⟩)), (.pointer (some ⟨X, 1, none⟩)), (.int .u8 x.a), (.pointer (some ⟨X, 2, none⟩)), (.int .u8 x.b), (.pointer (some ⟨X, 3, none⟩)), (.int .u8 x.c), (.int .i64 rm), (.bool false), (.bool false), (.bool false), (.pointer (some ⟨G, 0, none⟩)), (.pointer (some ⟨X, 1, none⟩)), (.int .u8 x.a), (.pointer (some ⟨X, 3, none⟩)), (.int .u8 x.c), (.int .i64 po), (.pointer (some ⟨r, 0, none⟩)), (.pointer (some ⟨X, 1, none⟩)), (.int .u8 x.a), (.pointer (some ⟨X, 3, none⟩)), (.int .u8 x.c), (.int .i64 po), (.bool false), (.bool false), (.bool false), (.pointer (some ⟨G, 0, none⟩)), (.pointer (some ⟨X, 3, none⟩)), (.int .u8 x.c), (.int .i64 tt), (.pointer (some ⟨r, 0, none⟩)), (.pointer (some ⟨X, 3, none⟩)), (.int .u8 x.c), (.int .i64 tt), (.bool false), (.bool false), (.bool false), (.pointer (some ⟨G, 0, none⟩)), (.pointer (some ⟨X, 1, none⟩)), (.int .u8 x.a), (.bool hs), (.pointer (some ⟨r, 0, none⟩)), (.pointer (some ⟨X, 1, none⟩)), (.int .u8 x.a), (.bool hs), (.bool false), (.bool false)]
    (fun w' => Below W.heap.size W w') (by kernel_rfl) (Below.refl _ _).drew ?_
  intro af haf
  simp only [List.toList_toArray, List.append_eq, List.cons_append, List.nil_append, puts, Act.put, List.getD_cons_zero, List.getD_cons_succ, List.setIfInBounds_toArray, List.set_cons_succ, List.set_cons_zero] at haf
  subst haf
  refine ⟨?_, ?_⟩
  · simp only [List.toList_toArray, List.append_eq, List.cons_append, List.nil_append, EachTo]
    refine ⟨?_, ?_, ?_, ?_, ?_, ?_, ?_, ?_, ?_, ?_, ?_, ?_, ?_, ?_, ?_, ?_, ?_, ?_, ?_, ?_, ?_, ?_, ?_, ?_, ?_, ?_, ?_, ?_, ?_, ?_, ?_, ?_, ?_, ?_, ?_, ?_, ?_, ?_, ?_, ?_, ?_, ?_, ?_, ?_, ?_, ?_, ?_, ?_, ?_, ?_, ?_, ?_, ?_, ?_, ?_, ?_, ?_, ?_, ?_, ?_, ?_, ?_, ?_, ?_, trivial⟩
    · intro w' hS
      refine OpTo.plain ?_ ?_
      exact rfl
      have d0_0 := (KY.out.below hS KY.out.lt).cell 0
      have d0_1 := (KY.out.below hS KY.out.lt).cell 1
      have d0_2 := (KY.out.below hS KY.out.lt).cell 2
      have d0_3 := (KY.out.below hS KY.out.lt).cell 3
      have d0_4 := (KY.out.below hS KY.out.lt).cell 4
      simp at d0_0 d0_1 d0_2 d0_3 d0_4
      have HS := Lib.hid hS
      clear hS
      go_wp2_with fail
      all_goals first | exact HS.out | exact ⟨rfl, HS.out⟩ | rfl | exact ⟨by omega, HS.out⟩
    · intro w' hS
      refine OpTo.plain ?_ ?_
      exact rfl
      have d0_0 := (KZ.out.below hS KZ.out.lt).cell 0
      have d0_1 := (KZ.out.below hS KZ.out.lt).cell 1
      have d0_2 := (KZ.out.below hS KZ.out.lt).cell 2
      have d0_3 := (KZ.out.below hS KZ.out.lt).cell 3
      have d0_4 := (KZ.out.below hS KZ.out.lt).cell 4
      simp at d0_0 d0_1 d0_2 d0_3 d0_4
      have HS := Lib.hid hS
      clear hS
      go_wp2_with fail
      all_goals first | exact HS.out | exact ⟨rfl, HS.out⟩ | rfl | exact ⟨by omega, HS.out⟩
    · intro w' hS
      refine OpTo.plain ?_ ?_
      exact rfl
      have HS := Lib.hid hS
      clear hS
      go_wp2_with fail
      all_goals first | exact HS.out | exact ⟨rfl, HS.out⟩ | rfl | exact ⟨by omega, HS.out⟩
    · intro w' hS
      refine OpTo.plain ?_ ?_
      exact rfl
      have HS := Lib.hid hS
      clear hS
      go_wp2_with fail
      all_goals first | exact HS.out | exact ⟨rfl, HS.out⟩ | rfl | exact ⟨by omega, HS.out⟩
    · intro w' hS
      refine OpTo.wanted ?_ ?_
      kernel_rfl
      have HS := Lib.hid hS
      clear hS
      go_wp2_with fail
      all_goals first | exact HS.out | exact ⟨rfl, HS.out⟩ | rfl | exact ⟨by omega, HS.out⟩
    · intro w' hS
      refine OpTo.wanted ?_ ?_
      kernel_rfl
      have HS := Lib.hid hS
      clear hS
      go_wp2_with fail
      all_goals first | exact HS.out | exact ⟨rfl, HS.out⟩ | rfl | exact ⟨by omega, HS.out⟩
    · intro w' hS
      refine OpTo.wanted ?_ ?_
      kernel_rfl
      have HS := Lib.hid hS
      clear hS
      go_wp2_with fail
      all_goals first | exact HS.out | exact ⟨rfl, HS.out⟩ | rfl | exact ⟨by omega, HS.out⟩
    · intro w' hS
      refine OpTo.plain ?_ ?_
      exact rfl
      have HS := Lib.hid hS
      clear hS
      go_wp2_with fail
      all_goals first | exact HS.out | exact ⟨rfl, HS.out⟩ | rfl | exact ⟨by omega, HS.out⟩
    · intro w' hS
      refine OpTo.plain ?_ ?_
      exact rfl
      have HS := Lib.hid hS
      clear hS
      go_wp2_with fail
      all_goals first | exact HS.out | exact ⟨rfl, HS.out⟩ | rfl | exact ⟨by omega, HS.out⟩
    · intro w' hS
      refine OpTo.wanted ?_ ?_
      kernel_rfl
      have HS := Lib.hid hS
      clear hS
      go_wp2_with fail
      all_goals first | exact HS.out | exact ⟨rfl, HS.out⟩ | rfl | exact ⟨by omega, HS.out⟩
    · intro w' hS
      refine OpTo.wanted ?_ ?_
      kernel_rfl
      have HS := Lib.hid hS
      clear hS
      go_wp2_with fail
      all_goals first | exact HS.out | exact ⟨rfl, HS.out⟩ | rfl | exact ⟨by omega, HS.out⟩
    · intro w' hS
      refine OpTo.wanted ?_ ?_
      kernel_rfl
      have d0_0 := (KX.out.below hS KX.out.lt).cell 0
      have d0_1 := (KX.out.below hS KX.out.lt).cell 1
      have d0_2 := (KX.out.below hS KX.out.lt).cell 2
      have d0_3 := (KX.out.below hS KX.out.lt).cell 3
      have d0_4 := (KX.out.below hS KX.out.lt).cell 4
      simp at d0_0 d0_1 d0_2 d0_3 d0_4
      have HS := Lib.hid hS
      clear hS
      go_wp2_with fail
      all_goals first | exact HS.out | exact ⟨rfl, HS.out⟩ | rfl | exact ⟨by omega, HS.out⟩
    · intro w' hS
      refine OpTo.wanted ?_ ?_
      kernel_rfl
      have HS := Lib.hid hS
      clear hS
      go_wp2_with fail
      all_goals first | exact HS.out | exact ⟨rfl, HS.out⟩ | rfl | exact ⟨by omega, HS.out⟩
    · intro w' hS
      refine OpTo.wanted ?_ ?_
      kernel_rfl
      have d0_0 := (KX.out.below hS KX.out.lt).cell 0
      have d0_1 := (KX.out.below hS KX.out.lt).cell 1
      have d0_2 := (KX.out.below hS KX.out.lt).cell 2
      have d0_3 := (KX.out.below hS KX.out.lt).cell 3
      have d0_4 := (KX.out.below hS KX.out.lt).cell 4
      simp at d0_0 d0_1 d0_2 d0_3 d0_4
      have HS := Lib.hid hS
      clear hS
      go_wp2_with fail
      all_goals first | exact HS.out | exact ⟨rfl, HS.out⟩ | rfl | exact ⟨by omega, HS.out⟩
    · intro w' hS
      refine OpTo.wanted ?_ ?_
      kernel_rfl
      have HS := Lib.hid hS
      clear hS
      go_wp2_with fail
      all_goals first | exact HS.out | exact ⟨rfl, HS.out⟩ | rfl | exact ⟨by omega, HS.out⟩
    · intro w' hS
      refine OpTo.wanted ?_ ?_
      kernel_rfl
      have d0_0 := (KX.out.below hS KX.out.lt).cell 0
      have d0_1 := (KX.out.below hS KX.out.lt).cell 1
      have d0_2 := (KX.out.below hS KX.out.lt).cell 2
      have d0_3 := (KX.out.below hS KX.out.lt).cell 3
      have d0_4 := (KX.out.below hS KX.out.lt).cell 4
      simp at d0_0 d0_1 d0_2 d0_3 d0_4
      have HS := Lib.hid hS
      clear hS
      go_wp2_with fail
      all_goals first | exact HS.out | exact ⟨rfl, HS.out⟩ | rfl | exact ⟨by omega, HS.out⟩
    · intro w' hS
      refine OpTo.wanted ?_ ?_
      kernel_rfl
      have HS := Lib.hid hS
      clear hS
      go_wp2_with fail
      refine (Croom.out w' HS.out).mono ?_
      rintro e w'' ⟨rfl, hb2⟩
      exact ⟨rfl, andB HS.out hb2⟩
    · intro w' hS
      refine OpTo.wanted ?_ ?_
      kernel_rfl
      have HS := Lib.hid hS
      clear hS
      go_wp2_with fail
      all_goals first | exact HS.out | exact ⟨rfl, HS.out⟩ | rfl | exact ⟨by omega, HS.out⟩
    · intro w' hS
      refine OpTo.wanted ?_ ?_
      kernel_rfl
      have HS := Lib.hid hS
      clear hS
      go_wp2_with fail
      all_goals first | exact HS.out | exact ⟨rfl, HS.out⟩ | rfl | exact ⟨by omega, HS.out⟩
    · intro w' hS
      refine OpTo.wanted ?_ ?_
      kernel_rfl
      have d0_0 := (KX.out.below hS KX.out.lt).cell 0
      have d0_1 := (KX.out.below hS KX.out.lt).cell 1
      have d0_2 := (KX.out.below hS KX.out.lt).cell 2
      have d0_3 := (KX.out.below hS KX.out.lt).cell 3
      have d0_4 := (KX.out.below hS KX.out.lt).cell 4
      simp at d0_0 d0_1 d0_2 d0_3 d0_4
      have HS := Lib.hid hS
      clear hS
      go_wp2_with fail
      all_goals first | exact HS.out | exact ⟨rfl, HS.out⟩ | rfl | exact ⟨by omega, HS.out⟩
    · intro w' hS
      refine OpTo.wanted ?_ ?_
      kernel_rfl
      have HS := Lib.hid hS
      clear hS
      go_wp2_with fail
      all_goals first | exact HS.out | exact ⟨rfl, HS.out⟩ | rfl | exact ⟨by omega, HS.out⟩
    · intro w' hS
      refine OpTo.wanted ?_ ?_
      kernel_rfl
      have d0_0 := (KX.out.below hS KX.out.lt).cell 0
      have d0_1 := (KX.out.below hS KX.out.lt).cell 1
      have d0_2 := (KX.out.below hS KX.out.lt).cell 2
      have d0_3 := (KX.out.below hS KX.out.lt).cell 3
      have d0_4 := (KX.out.below hS KX.out.lt).cell 4
      simp at d0_0 d0_1 d0_2 d0_3 d0_4
      have HS := Lib.hid hS
      clear hS
      go_wp2_with fail
      all_goals first | exact HS.out | exact ⟨rfl, HS.out⟩ | rfl | exact ⟨by omega, HS.out⟩
    · intro w' hS
      refine OpTo.wanted ?_ ?_
      kernel_rfl
      have HS := Lib.hid hS
      clear hS
      go_wp2_with fail
      all_goals first | exact HS.out | exact ⟨rfl, HS.out⟩ | rfl | exact ⟨by omega, HS.out⟩
    · intro w' hS
      refine OpTo.wanted ?_ ?_
      kernel_rfl
      have d0_0 := (KX.out.below hS KX.out.lt).cell 0
      have d0_1 := (KX.out.below hS KX.out.lt).cell 1
      have d0_2 := (KX.out.below hS KX.out.lt).cell 2
      have d0_3 := (KX.out.below hS KX.out.lt).cell 3
      have d0_4 := (KX.out.below hS KX.out.lt).cell 4
      simp at d0_0 d0_1 d0_2 d0_3 d0_4
      have HS := Lib.hid hS
      clear hS
      go_wp2_with fail
      all_goals first | exact HS.out | exact ⟨rfl, HS.out⟩ | rfl | exact ⟨by omega, HS.out⟩
    · intro w' hS
      refine OpTo.wanted ?_ ?_
      kernel_rfl
      have HS := Lib.hid hS
      clear hS
      go_wp2_with fail
      refine (Droom.out w' HS.out).mono ?_
      rintro e w'' ⟨rfl, hb2⟩
      exact ⟨rfl, andB HS.out hb2⟩
    · intro w' hS
      refine OpTo.wanted ?_ ?_
      kernel_rfl
      have HS := Lib.hid hS
      clear hS
      go_wp2_with fail
      all_goals first | exact HS.out | exact ⟨rfl, HS.out⟩ | rfl | exact ⟨by omega, HS.out⟩
    · intro w' hS
      refine OpTo.plain ?_ ?_
      exact rfl
      have HS := Lib.hid hS
      clear hS
      go_wp2_with fail
      all_goals first | exact HS.out | exact ⟨rfl, HS.out⟩ | rfl | exact ⟨by omega, HS.out⟩
    · intro w' hS
      refine OpTo.plain ?_ ?_
      exact rfl
      have HS := Lib.hid hS
      clear hS
      go_wp2_with fail
      all_goals first | exact HS.out | exact ⟨rfl, HS.out⟩ | rfl | exact ⟨by omega, HS.out⟩
    · intro w' hS
      refine OpTo.wanted ?_ ?_
      kernel_rfl
      have HS := Lib.hid hS
      clear hS
      go_wp2_with fail
      all_goals first | exact HS.out | exact ⟨rfl, HS.out⟩ | rfl | exact ⟨by omega, HS.out⟩
    · intro w' hS
      refine OpTo.wanted ?_ ?_
      kernel_rfl
      have HS := Lib.hid hS
      clear hS
      go_wp2_with fail
      all_goals first | exact HS.out | exact ⟨rfl, HS.out⟩ | rfl | exact ⟨by omega, HS.out⟩
    · intro w' hS
      refine OpTo.wanted ?_ ?_
      kernel_rfl
      have d0_0 := (KX.out.below hS KX.out.lt).cell 0
      have d0_1 := (KX.out.below hS KX.out.lt).cell 1
      have d0_2 := (KX.out.below hS KX.out.lt).cell 2
      have d0_3 := (KX.out.below hS KX.out.lt).cell 3
      have d0_4 := (KX.out.below hS KX.out.lt).cell 4
      simp at d0_0 d0_1 d0_2 d0_3 d0_4
      have HS := Lib.hid hS
      clear hS
      go_wp2_with fail
      all_goals first | exact HS.out | exact ⟨rfl, HS.out⟩ | rfl | exact ⟨by omega, HS.out⟩
    · intro w' hS
      refine OpTo.wanted ?_ ?_
      kernel_rfl
      have HS := Lib.hid hS
      clear hS
      go_wp2_with fail
      all_goals first | exact HS.out | exact ⟨rfl, HS.out⟩ | rfl | exact ⟨by omega, HS.out⟩
    · intro w' hS
      refine OpTo.wanted ?_ ?_
      kernel_rfl
      have d0_0 := (KX.out.below hS KX.out.lt).cell 0
      have d0_1 := (KX.out.below hS KX.out.lt).cell 1
      have d0_2 := (KX.out.below hS KX.out.lt).cell 2
      have d0_3 := (KX.out.below hS KX.out.lt).cell 3
      have d0_4 := (KX.out.below hS KX.out.lt).cell 4
      simp at d0_0 d0_1 d0_2 d0_3 d0_4
      have HS := Lib.hid hS
      clear hS
      go_wp2_with fail
      all_goals first | exact HS.out | exact ⟨rfl, HS.out⟩ | rfl | exact ⟨by omega, HS.out⟩
    · intro w' hS
      refine OpTo.wanted ?_ ?_
      kernel_rfl
      have HS := Lib.hid hS
      clear hS
      go_wp2_with fail
      refine (Cpos.out w' HS.out).mono ?_
      rintro e w'' ⟨rfl, hb2⟩
      exact ⟨rfl, andB HS.out hb2⟩
    · intro w' hS
      refine OpTo.wanted ?_ ?_
      kernel_rfl
      have HS := Lib.hid hS
      clear hS
      go_wp2_with fail
      all_goals first | exact HS.out | exact ⟨rfl, HS.out⟩ | rfl | exact ⟨by omega, HS.out⟩
    · intro w' hS
      refine OpTo.wanted ?_ ?_
      kernel_rfl
      have HS := Lib.hid hS
      clear hS
      go_wp2_with fail
      all_goals first | exact HS.out | exact ⟨rfl, HS.out⟩ | rfl | exact ⟨by omega, HS.out⟩
    · intro w' hS
      refine OpTo.wanted ?_ ?_
      kernel_rfl
      have d0_0 := (KX.out.below hS KX.out.lt).cell 0
      have d0_1 := (KX.out.below hS KX.out.lt).cell 1
      have d0_2 := (KX.out.below hS KX.out.lt).cell 2
      have d0_3 := (KX.out.below hS KX.out.lt).cell 3
      have d0_4 := (KX.out.below hS KX.out.lt).cell 4
      simp at d0_0 d0_1 d0_2 d0_3 d0_4
      have HS := Lib.hid hS
      clear hS
      go_wp2_with fail
      all_goals first | exact HS.out | exact ⟨rfl, HS.out⟩ | rfl | exact ⟨by omega, HS.out⟩
    · intro w' hS
      refine OpTo.wanted ?_ ?_
      kernel_rfl
      have HS := Lib.hid hS
      clear hS
      go_wp2_with fail
      all_goals first | exact HS.out | exact ⟨rfl, HS.out⟩ | rfl | exact ⟨by omega, HS.out⟩
    · intro w' hS
      refine OpTo.wanted ?_ ?_
      kernel_rfl
      have d0_0 := (KX.out.below hS KX.out.lt).cell 0
      have d0_1 := (KX.out.below hS KX.out.lt).cell 1
      have d0_2 := (KX.out.below hS KX.out.lt).cell 2
      have d0_3 := (KX.out.below hS KX.out.lt).cell 3
      have d0_4 := (KX.out.below hS KX.out.lt).cell 4
      simp at d0_0 d0_1 d0_2 d0_3 d0_4
      have HS := Lib.hid hS
      clear hS
      go_wp2_with fail
      all_goals first | exact HS.out | exact ⟨rfl, HS.out⟩ | rfl | exact ⟨by omega, HS.out⟩
    · intro w' hS
      refine OpTo.wanted ?_ ?_
      kernel_rfl
      have HS := Lib.hid hS
      clear hS
      go_wp2_with fail
      refine (Dpos.out w' HS.out).mono ?_
      rintro e w'' ⟨rfl, hb2⟩
      exact ⟨rfl, andB HS.out hb2⟩
    · intro w' hS
      refine OpTo.wanted ?_ ?_
      kernel_rfl
      have HS := Lib.hid hS
      clear hS
      go_wp2_with fail
      all_goals first | exact HS.out | exact ⟨rfl, HS.out⟩ | rfl | exact ⟨by omega, HS.out⟩
    · intro w' hS
      refine OpTo.plain ?_ ?_
      exact rfl
      have HS := Lib.hid hS
      clear hS
      go_wp2_with fail
      all_goals first | exact HS.out | exact ⟨rfl, HS.out⟩ | rfl | exact ⟨by omega, HS.out⟩
    · intro w' hS
      refine OpTo.plain ?_ ?_
      exact rfl
      have HS := Lib.hid hS
      clear hS
      go_wp2_with fail
      all_goals first | exact HS.out | exact ⟨rfl, HS.out⟩ | rfl | exact ⟨by omega, HS.out⟩
    · intro w' hS
      refine OpTo.wanted ?_ ?_
      kernel_rfl
      have HS := Lib.hid hS
      clear hS
      go_wp2_with fail
      all_goals first | exact HS.out | exact ⟨rfl, HS.out⟩ | rfl | exact ⟨by omega, HS.out⟩
    · intro w' hS
      refine OpTo.wanted ?_ ?_
      kernel_rfl
      have HS := Lib.hid hS
      clear hS
      go_wp2_with fail
      all_goals first | exact HS.out | exact ⟨rfl, HS.out⟩ | rfl | exact ⟨by omega, HS.out⟩
    · intro w' hS
      refine OpTo.wanted ?_ ?_
      kernel_rfl
      have d0_0 := (KX.out.below hS KX.out.lt).cell 0
      have d0_1 := (KX.out.below hS KX.out.lt).cell 1
      have d0_2 := (KX.out.below hS KX.out.lt).cell 2
      have d0_3 := (KX.out.below hS KX.out.lt).cell 3
      have d0_4 := (KX.out.below hS KX.out.lt).cell 4
      simp at d0_0 d0_1 d0_2 d0_3 d0_4
      have HS := Lib.hid hS
      clear hS
      go_wp2_with fail
      all_goals first | exact HS.out | exact ⟨rfl, HS.out⟩ | rfl | exact ⟨by omega, HS.out⟩
    · intro w' hS
      refine OpTo.wanted ?_ ?_
      kernel_rfl
      have HS := Lib.hid hS
      clear hS
      go_wp2_with fail
      refine (Ctot.out w' HS.out).mono ?_
      rintro e w'' ⟨rfl, hb2⟩
      exact ⟨rfl, andB HS.out hb2⟩
    · intro w' hS
      refine OpTo.wanted ?_ ?_
      kernel_rfl
      have HS := Lib.hid hS
      clear hS
      go_wp2_with fail
      all_goals first | exact HS.out | exact ⟨rfl, HS.out⟩ | rfl | exact ⟨by omega, HS.out⟩
    · intro w' hS
      refine OpTo.wanted ?_ ?_
      kernel_rfl
      have HS := Lib.hid hS
      clear hS
      go_wp2_with fail
      all_goals first | exact HS.out | exact ⟨rfl, HS.out⟩ | rfl | exact ⟨by omega, HS.out⟩
    · intro w' hS
      refine OpTo.wanted ?_ ?_
      kernel_rfl
      have d0_0 := (KX.out.below hS KX.out.lt).cell 0
      have d0_1 := (KX.out.below hS KX.out.lt).cell 1
      have d0_2 := (KX.out.below hS KX.out.lt).cell 2
      have d0_3 := (KX.out.below hS KX.out.lt).cell 3
      have d0_4 := (KX.out.below hS KX.out.lt).cell 4
      simp at d0_0 d0_1 d0_2 d0_3 d0_4
      have HS := Lib.hid hS
      clear hS
      go_wp2_with fail
      all_goals first | exact HS.out | exact ⟨rfl, HS.out⟩ | rfl | exact ⟨by omega, HS.out⟩
    · intro w' hS
      refine OpTo.wanted ?_ ?_
      kernel_rfl
      have HS := Lib.hid hS
      clear hS
      go_wp2_with fail
      refine (Dtot.out w' HS.out).mono ?_
      rintro e w'' ⟨rfl, hb2⟩
      exact ⟨rfl, andB HS.out hb2⟩
    · intro w' hS
      refine OpTo.wanted ?_ ?_
      kernel_rfl
      have HS := Lib.hid hS
      clear hS
      go_wp2_with fail
      all_goals first | exact HS.out | exact ⟨rfl, HS.out⟩ | rfl | exact ⟨by omega, HS.out⟩
    · intro w' hS
      refine OpTo.plain ?_ ?_
      exact rfl
      have HS := Lib.hid hS
      clear hS
      go_wp2_with fail
      all_goals first | exact HS.out | exact ⟨rfl, HS.out⟩ | rfl | exact ⟨by omega, HS.out⟩
    · intro w' hS
      refine OpTo.plain ?_ ?_
      exact rfl
      have HS := Lib.hid hS
      clear hS
      go_wp2_with fail
      all_goals first | exact HS.out | exact ⟨rfl, HS.out⟩ | rfl | exact ⟨by omega, HS.out⟩
    · intro w' hS
      refine OpTo.wanted ?_ ?_
      kernel_rfl
      have HS := Lib.hid hS
      clear hS
      go_wp2_with fail
      all_goals first | exact HS.out | exact ⟨rfl, HS.out⟩ | rfl | exact ⟨by omega, HS.out⟩
    · intro w' hS
      refine OpTo.wanted ?_ ?_
      kernel_rfl
      have HS := Lib.hid hS
      clear hS
      go_wp2_with fail
      all_goals first | exact HS.out | exact ⟨rfl, HS.out⟩ | rfl | exact ⟨by omega, HS.out⟩
    · intro w' hS
      refine OpTo.wanted ?_ ?_
      kernel_rfl
      have d0_0 := (KX.out.below hS KX.out.lt).cell 0
      have d0_1 := (KX.out.below hS KX.out.lt).cell 1
      have d0_2 := (KX.out.below hS KX.out.lt).cell 2
      have d0_3 := (KX.out.below hS KX.out.lt).cell 3
      have d0_4 := (KX.out.below hS KX.out.lt).cell 4
      simp at d0_0 d0_1 d0_2 d0_3 d0_4
      have HS := Lib.hid hS
      clear hS
      go_wp2_with fail
      all_goals first | exact HS.out | exact ⟨rfl, HS.out⟩ | rfl | exact ⟨by omega, HS.out⟩
    · intro w' hS
      refine OpTo.wanted ?_ ?_
      kernel_rfl
      have HS := Lib.hid hS
      clear hS
      go_wp2_with fail
      refine (Chas.out w' HS.out).mono ?_
      rintro e w'' ⟨rfl, hb2⟩
      exact ⟨rfl, andB HS.out hb2⟩
    · intro w' hS
      refine OpTo.wanted ?_ ?_
      kernel_rfl
      have HS := Lib.hid hS
      clear hS
      go_wp2_with fail
      all_goals first | exact HS.out | exact ⟨rfl, HS.out⟩ | rfl | exact ⟨by omega, HS.out⟩
    · intro w' hS
      refine OpTo.wanted ?_ ?_
      kernel_rfl
      have HS := Lib.hid hS
      clear hS
      go_wp2_with fail
      all_goals first | exact HS.out | exact ⟨rfl, HS.out⟩ | rfl | exact ⟨by omega, HS.out⟩
    · intro w' hS
      refine OpTo.wanted ?_ ?_
      kernel_rfl
      have d0_0 := (KX.out.below hS KX.out.lt).cell 0
      have d0_1 := (KX.out.below hS KX.out.lt).cell 1
      have d0_2 := (KX.out.below hS KX.out.lt).cell 2
      have d0_3 := (KX.out.below hS KX.out.lt).cell 3
      have d0_4 := (KX.out.below hS KX.out.lt).cell 4
      simp at d0_0 d0_1 d0_2 d0_3 d0_4
      have HS := Lib.hid hS
      clear hS
      go_wp2_with fail
      all_goals first | exact HS.out | exact ⟨rfl, HS.out⟩ | rfl | exact ⟨by omega, HS.out⟩
    · intro w' hS
      refine OpTo.wanted ?_ ?_
      kernel_rfl
      have HS := Lib.hid hS
      clear hS
      go_wp2_with fail
      refine (Dhas.out w' HS.out).mono ?_
      rintro e w'' ⟨rfl, hb2⟩
      exact ⟨rfl, andB HS.out hb2⟩
    · intro w' hS
      refine OpTo.wanted ?_ ?_
      kernel_rfl
      have HS := Lib.hid hS
      clear hS
      go_wp2_with fail
      all_goals first | exact HS.out | exact ⟨rfl, HS.out⟩ | rfl | exact ⟨by omega, HS.out⟩
    · intro w' hS
      refine OpTo.plain ?_ ?_
      exact rfl
      have HS := Lib.hid hS
      clear hS
      go_wp2_with fail
      all_goals first | exact HS.out | exact ⟨rfl, HS.out⟩ | rfl | exact ⟨by omega, HS.out⟩
  intro w6 b6
  exact HQ.out w6 b6
/-- The two copies: none, or ledgers of their own. -/
def CopyIs (w : World) (G M r : Nat) (cv dv : Value) : Prop :=
  (cv = .pointer none ∧ dv = .pointer none) ∨ ∃ (gc mc rc base : Nat) (ps : List Int) (ls : List Ln) (vp vl : Value), cv = .pointer (some ⟨gc, 0, none⟩) ∧ dv = .pointer (some ⟨rc, 0, none⟩) ∧ gc ≠ G ∧ mc ≠ M ∧ rc ≠ r ∧ LedM w gc mc ps ls ∧ LInv ps ls ∧ RefL w base rc ps ls vp vl
theorem CopyIs.keep {w w' : World} {G M r base : Nat} {ps : List Int} {ls : List Ln} {vp vl cv dv : Value} (h : CopyIs w G M r cv dv) (hL : LedM w G M ps ls) (hR : RefL w base r ps ls vp vl) (k : Keep (Trio G M r) w w') : CopyIs w' G M r cv dv := by
  rcases h with h | ⟨gc, mc, rc, bc, pc, lc, up, ul, h1, h2, h3, h4, h5, h6, h7, h8⟩
  · exact .inl h
  · obtain ⟨⟨a1, a2⟩, a3, a4⟩ := RefL.apart hL h8
    refine .inr ⟨gc, mc, rc, bc, pc, lc, up, ul, h1, h2, h3, h4, h5, h6.keep k ?_ ?_, h7, h8.keep k ?_ ?_ ?_⟩
    · rintro (e | e | e)
      · exact h3 e
      · exact hL.map.ne_blk h6.blk e.symm
      · exact blk_ne h6.blk hR.blk (by decide) e
    · rintro (e | e | e)
      · exact h6.map.ne_blk hL.blk e
      · exact h4 e
      · exact h6.map.ne_blk hR.blk e
    · rintro (e | e | e)
      · exact a1 e
      · exact a2 e
      · exact h5 e
    · rintro b hb (e | e | e)
      · exact (a3 b hb).1 e
      · exact (a3 b hb).2.1 e
      · exact owns_ne h8.p hR.blk (by decide) b hb e
    · rintro b hb (e | e | e)
      · exact (a4 b hb).1 e
      · exact (a4 b hb).2.1 e
      · exact owns_ne h8.l hR.blk (by decide) b hb e
theorem CopyIs.below {w w' : World} {G M r base : Nat} {ps : List Int} {ls : List Ln} {vp vl cv dv : Value} (h : CopyIs w G M r cv dv) (hL : LedM w G M ps ls) (hR : RefL w base r ps ls vp vl) (k : Below w.heap.size w w') : CopyIs w' G M r cv dv := h.keep hL hR (Keep.of_below k)
theorem rowed_party {w : World} {base n : Nat} {v : Value} {xs : List Value} (h : Rowed w base 28 1 v n xs) : ∃ (ao : Option Addr) (c : Nat), v = .slice ao n c ∧ ∀ m q, (∃ cs, (Pg.party (.slice ao n c) n c m q).Mem w cs) ∧ ∀ b, (Pg.party (.slice ao n c) n c m q).own b → base ≤ b := by
  obtain ⟨_, ⟨rfl, rfl⟩ | ⟨g, cur, rfl, hb, hg, hm, hc, _⟩⟩ := h
  · exact ⟨none, 0, rfl, fun m q => ⟨⟨#[], by simp [Pg.n, Pg.c], by simp [Pg.c], by simp [Pg.c], .inl ⟨rfl, rfl, rfl⟩⟩, fun b h => by cases h⟩⟩
  · exact ⟨_, n, rfl, fun m q => ⟨⟨cur, Nat.le_refl _, hm, hc, .inr ⟨g, rfl, hg⟩⟩, fun b h => by cases h; exact hb⟩⟩
theorem rowed_line {w : World} {base n : Nat} {v : Value} {xs : List Value} (h : Rowed w base 35 5 v n xs) : ∃ (ao : Option Addr) (c : Nat), v = .slice ao n c ∧ ∀ m q, (∃ cs, (Pg.line (.slice ao n c) n c m q).Mem w cs) ∧ ∀ b, (Pg.line (.slice ao n c) n c m q).own b → base ≤ b := by
  obtain ⟨_, ⟨rfl, rfl⟩ | ⟨g, cur, rfl, hb, hg, hm, hc, _⟩⟩ := h
  · exact ⟨none, 0, rfl, fun m q => ⟨⟨#[], by simp [Pg.n, Pg.c], by simp [Pg.c], by simp [Pg.c], .inl ⟨rfl, rfl, rfl⟩⟩, fun b h => by cases h⟩⟩
  · exact ⟨_, n, rfl, fun m q => ⟨⟨cur, Nat.le_refl _, hm, hc, .inr ⟨g, rfl, hg⟩⟩, fun b h => by cases h; exact hb⟩⟩
/-- While the book is filled: its pages, and both ledgers below it. -/
structure TailS (w0 : World) (G M bb r : Nat) (ps : List Int) (ls : List Ln) (vp vl : Value) (base g : Nat) (bv : Value) (pgs : List Pg) (w : World) : Prop where
  book : BookIs w base g bv pgs
  mem : ∀ p ∈ pgs, ∃ cs, p.Mem w cs
  apart : Apartly pgs
  low : ∀ p ∈ pgs, ∀ b, p.own b → g < b
  led : LedM w G M ps ls
  ref : RefL w bb r ps ls vp vl
  under : G < base ∧ M < base ∧ r < base ∧ (∀ b, vp.ownBlock = some b → b < base) ∧ ∀ b, vl.ownBlock = some b → b < base
  keep : Below w0.heap.size w0 w
  ge : w0.heap.size ≤ base
theorem TailS.below {w0 w w' : World} {G M bb r base g : Nat} {ps : List Int} {ls : List Ln} {vp vl bv : Value} {pgs : List Pg} (h : TailS w0 G M bb r ps ls vp vl base g bv pgs w) (k : Below w.heap.size w w') : TailS w0 G M bb r ps ls vp vl base g bv pgs w' := by
  have kk : Keep (fun _ => False) w w' := Keep.of_below k
  refine ⟨⟨h.book.blk.below k h.book.blk.lt, h.book.ge, owns_below h.book.row k⟩, fun p hp => ?_, h.apart, h.low, h.led.below k, h.ref.below k, h.under, h.keep.trans (k.mono h.keep.size), h.ge⟩
  obtain ⟨cs, m⟩ := h.mem p hp
  exact ⟨cs, m.keep kk (fun _ _ => id)⟩
theorem TailS.add {w0 w1 w2 : World} {G M bb r base g : Nat} {ps : List Int} {ls : List Ln} {vp vl bv : Value} {pgs : List Pg} {p : Pg} {e : Ending} (h : TailS w0 G M bb r ps ls vp vl base g bv pgs w1) (hm : ∃ cs, p.Mem w1 cs) (hb : ∀ b, p.own b → g < b ∧ ∀ q ∈ pgs, ¬ q.own b) (hp : Paged base g bv pgs p w1 e w2) :
    ∃ bv', TailS w0 G M bb r ps ls vp vl base g bv' (pgs ++ [p]) w2 := by
  obtain ⟨_, bv', hbk, hk⟩ := hp
  obtain ⟨u1, u2, u3, u4, u5⟩ := h.under
  have hge := h.book.ge
  have low : ∀ b, b < base → ¬ (b = g ∨ bv.ownBlock = some b) := by
    rintro b hlt (e | e)
    · omega
    · have := (owns_type h.book.row e).1; omega
  have page : ∀ q : Pg, (∀ b, q.own b → g < b) → (∃ cs, q.Mem w1 cs) → ∃ cs, q.Mem w2 cs := by
    rintro q hq ⟨cs, m⟩
    refine ⟨cs, m.keep hk ?_⟩
    rintro b hb (e | e)
    · have := hq b hb; omega
    · obtain ⟨_, cur, hc⟩ := m.own hb
      obtain ⟨_, _, cur2, hc2⟩ := owns_type h.book.row e
      rw [hc2] at hc
      simp only [Option.some.injEq, Obj.cells.injEq] at hc
      exact (Pg.elem_ne q).1 hc.2.1.symm
  refine ⟨bv', hbk, ?_, ?_, ?_, h.led.keep hk (low G u1) (low M u2), h.ref.keep hk (low r u3) (fun b hb => low b (u4 b hb)) (fun b hb => low b (u5 b hb)), h.under, h.keep.trans (hk.below h.keep.size (fun b hb => low b (by have := h.ge; omega))), h.ge⟩
  · intro q hq
    rcases List.mem_append.1 hq with hq | hq
    · exact page q (h.low q hq) (h.mem q hq)
    · rw [List.mem_singleton] at hq; subst hq
      exact page q (fun b hb' => (hb b hb').1) hm
  · intro i j q q' b hi hj ho ho'
    have key : ∀ (i : Nat) (q : Pg), (pgs ++ [p])[i]? = some q → (i < pgs.length ∧ pgs[i]? = some q) ∨ (i = pgs.length ∧ q = p) := by
      intro i q hi
      by_cases hl : i < pgs.length
      · rw [List.getElem?_append_left hl] at hi; exact .inl ⟨hl, hi⟩
      · rw [List.getElem?_append_right (by omega)] at hi
        have h0 : i - pgs.length = 0 := by
          have := (List.getElem?_eq_some_iff.1 hi).1
          simpa using this
        rw [h0] at hi
        simp at hi
        exact .inr ⟨by omega, hi.symm⟩
    rcases key i q hi with ⟨_, hi'⟩ | ⟨hi', rfl⟩
    · rcases key j q' hj with ⟨_, hj'⟩ | ⟨hj', rfl⟩
      · exact h.apart i j q q' b hi' hj' ho ho'
      · exact absurd ho ((hb b ho').2 q (List.mem_of_getElem? hi'))
    · rcases key j q' hj with ⟨_, hj'⟩ | ⟨hj', rfl⟩
      · exact absurd ho' ((hb b ho).2 q' (List.mem_of_getElem? hj'))
      · omega
  · intro q hq b hb'
    rcases List.mem_append.1 hq with hq | hq
    · exact h.low q hq b hb'
    · rw [List.mem_singleton] at hq; subst hq; exact (hb b hb').1
/-- A row that was made behind all that stands is a page of its own. -/
theorem TailS.fresh {w0 w : World} {G M bb r base g : Nat} {ps : List Int} {ls : List Ln} {vp vl bv : Value} {pgs : List Pg} (h : TailS w0 G M bb r ps ls vp vl base g bv pgs w) {b : Nat} (hb : w.heap.size ≤ b) : g < b ∧ ∀ q ∈ pgs, ¬ q.own b := by
  refine ⟨Nat.lt_of_lt_of_le h.book.blk.lt hb, fun q hq ho => ?_⟩
  obtain ⟨cs, m⟩ := h.mem q hq
  have := (m.own ho).1
  omega
theorem TailS.nopage {w0 w : World} {G M bb r base g : Nat} {ps : List Int} {ls : List Ln} {vp vl bv : Value} {pgs : List Pg} (h : TailS w0 G M bb r ps ls vp vl base g bv pgs w) {b : Nat} (hb : b < base) : ¬ Pg.any pgs b := by
  rintro ⟨q, hq, ho⟩
  have := h.low q hq b ho
  have := h.book.ge
  omega
theorem TailS.start {w0 w : World} {G M bb r : Nat} {ps : List Int} {ls : List Ln} {vp vl : Value} (hL : LedM w G M ps ls) (hR : RefL w bb r ps ls vp vl) (hb : Below w0.heap.size w0 w) :
    TailS w0 G M bb r ps ls vp vl w.heap.size w.heap.size (.slice none 0 0) [] (w.alloc (.cells #[.slice none 0 0] 44)) := by
  have bw := (Below.refl w.heap.size w).alloc (Nat.le_refl _) (.cells #[.slice none 0 0] 44)
  refine ⟨⟨Blk.new _ _ _, Nat.le_refl _, World.ownsRow_nil _ _ _ _⟩, by simp, fun i j p q b h => by simp at h, by simp, hL.below bw, hR.below bw, ⟨hL.blk.lt, hL.map.lt, hR.blk.lt, fun b h => (owns_type hR.p h).2.1, fun b h => (owns_type hR.l h).2.1⟩, hb.trans (bw.mono hb.size), hb.size⟩
def PlayAt (w : World) (G M base r len : Nat) (cv dv i : Value) (wr : World) : Prop :=
  ∃ (k : Nat) (ps : List Int) (ls : List Ln) (vp vl : Value), k ≤ len ∧ i = .int .i64 k ∧ LedM wr G M ps ls ∧ LInv ps ls ∧ RefL wr base r ps ls vp vl ∧ Below w.heap.size w wr ∧ CopyIs wr G M r cv dv
set_option maxHeartbeats 16000000 in
set_option maxRecDepth 100000 in
theorem play_walk (a : Option Addr) (len cap : Nat) (xs : List Ac) (w : World) (h0 : ActsIn w a len cap xs) :
    Calls Try.prog 3 #[.slice a len cap] w fun e w' => e = .returned (.bool true) ∧ Below w.heap.size w w' := by
  have HA := Lib.hid h0
  have hxl : xs.length = len := h0.1
  have hcap := h0.2.2.1
  have hmax := h0.2.2.2.1
  unfold maxLen at hmax
  clear h0
  by_cases hle : ¬ len ≤ 120
  · go_enter Try.func3, Try.ntmps3
    go_wp2_with fail
    refine (lives03_any _).mono ?_
    rintro e w1 ⟨rfl, b1⟩
    have B1 := Lib.hid b1
    clear b1
    go_wp2_with fail
    go_ret
    exact ⟨rfl, B1.out⟩
  have hle := Decidable.not_not.1 hle
  go_enter Try.func3, Try.ntmps3
  go_wp2_with fail
  refine (new_any w).mono ?_
  rintro e w1 ⟨G, M, rfl, hL1, hG, hM, b1⟩
  have L1 := Lib.hid hL1
  have B1 := Lib.hid b1
  have HG := Lib.hid hG
  have HM := Lib.hid hM
  clear hL1 b1 hG hM
  go_wp2_with fail
  refine (rnew_any w1 w1.heap.size (Nat.le_refl _)).mono ?_
  rintro e w2 ⟨rfl, hr2, b2⟩
  have L2 := Lib.hid (L1.out.below b2)
  have R2 := Lib.hid hr2
  have B2 := Lib.hid (B1.out.trans (b2.mono B1.out.size))
  have HB := Lib.hid B1.out.size
  clear hr2 b2 L1 B1
  go_wp2_with fail
  generalize hr : w1.heap.size = r at *
  clear hr
  go_loopw [5, 6, 7] (PlayAt w G M r r len) (fun _ _ i _ => len - (intOf i).toNat)
  case atStart => exact ⟨0, [], [], .slice none 0 0, .slice none 0 0, Nat.zero_le _, rfl, L2.out, LInv.nil, R2.out, B2.out, .inl ⟨rfl, rfl⟩⟩
  case round =>
    clear L2 R2 B2
    obtain ⟨k, ps, ls, vp, vl, hk, rfl, hL, hI, hR, hB, hC⟩ := hrel
    have L3 := Lib.hid hL
    have I3 := Lib.hid hI
    have R3 := Lib.hid hR
    have B3 := Lib.hid hB
    have C3 := Lib.hid hC
    clear hL hI hR hB hC
    by_cases hkl : k < len
    · obtain ⟨ba, off, rfl, hba, d0, d1, d2, d3, d4⟩ := (HA.out.below B3.out).at (i := k) (by omega)
      have hx := HA.out.2.1 xs[k] (List.getElem_mem _)
      generalize hxe : xs[k] = x at *
      clear hxe
      have HX := Lib.hid hx
      obtain ⟨k1, k2⟩ := hx.k
      have hx0 : 0 ≤ x.k := k1
      have bw := (Below.refl wr.heap.size wr).alloc (Nat.le_refl _) (.cells #[.int .u8 x.k, .int .u8 x.a, .int .u8 x.b, .int .u8 x.c, .int .i64 x.n] 31)
      have L4 := Lib.hid (L3.out.below bw)
      have R4 := Lib.hid (R3.out.below bw)
      have B4 := Lib.hid (B3.out.trans (bw.mono B3.out.size))
      have C4 := Lib.hid (C3.out.below L3.out R3.out bw)
      have KX := Lib.hid (Blk.new wr #[.int .u8 x.k, .int .u8 x.a, .int .u8 x.b, .int .u8 x.c, .int .i64 x.n] 31)
      clear bw L3 R3 B3 C3
      by_cases h16 : x.k % 16 = 7
      · have g1 : x.k % 16 = 7 := h16
        have g2 : x.k.tmod 16 = 7 := by rw [Int.tmod_eq_emod_of_nonneg hx0]; exact h16
        clear h16 hx
        go_wp2_with fail
        refine (pcopy_any L4.out).mono ?_
        rintro e w5 ⟨gc, mc, rfl, hlc, hgc, hmc, b5⟩
        have L5 := Lib.hid (L4.out.below b5)
        have R5 := Lib.hid (R4.out.below b5)
        have B5 := Lib.hid (B4.out.trans (b5.mono B4.out.size))
        have KX5 := Lib.hid (KX.out.below b5 KX.out.lt)
        have LC5 := Lib.hid hlc
        have NG : Hid (gc ≠ G ∧ mc ≠ M ∧ r < w5.heap.size) := Lib.hid ⟨by have := L4.out.blk.lt; omega, by have := L4.out.map.lt; omega, R5.out.blk.lt⟩
        clear hlc hgc hmc b5 L4 R4 B4 C4 KX
        go_wp2_with fail
        refine (rcopy_any R5.out (by have := I3.out.len17; omega) (by have := I3.out.len; omega)).mono ?_
        rintro e w6 ⟨rc, vp6, vl6, rfl, hrc, hge, h1, h2, b6⟩
        have L6 := Lib.hid (L5.out.below b6)
        have R6 := Lib.hid (R5.out.below b6)
        have B6 := Lib.hid (B5.out.trans (b6.mono B5.out.size))
        have KX6 := Lib.hid (KX5.out.below b6 KX5.out.lt)
        have C6 : Hid (CopyIs w6 G M r (.pointer (some ⟨gc, 0, none⟩)) (.pointer (some ⟨rc, 0, none⟩))) := Lib.hid (.inr ⟨gc, mc, rc, _, ps, ls, vp6, vl6, rfl, rfl, NG.out.1, NG.out.2.1, by have := NG.out.2.2; omega, LC5.out.below b6, I3.out, hrc⟩)
        clear hrc hge h1 h2 b6 L5 R5 B5 KX5 LC5 NG
        have CD := Lib.hid (does_any L6.out I3.out R6.out HX.out)
        have kl := KX6.out.lt
        have e0 := KX6.out.cell 0
        have e1 := KX6.out.cell 1
        have e2 := KX6.out.cell 2
        have e3 := KX6.out.cell 3
        have e4 := KX6.out.cell 4
        simp at e0 e1 e2 e3 e4
        go_wp2_with fail
        clear kl e0 e1 e2 e3 e4
        refine CD.out.mono ?_
        rintro e w7 ⟨rfl, k7, ps7, ls7, vp7, vl7, hl7, hi7, hr7⟩
        have L7 := Lib.hid hl7
        have I7 := Lib.hid hi7
        have R7 := Lib.hid hr7
        have B7 := Lib.hid (B6.out.trans (k7.below B6.out.size (fun b hb e => by
          have q1 := HG.out; have q2 := HM.out; have q3 := HB.out
          rcases e with e | e | e <;> omega)))
        have C7 := Lib.hid (C6.out.keep L6.out R6.out k7)
        have KX7 := Lib.hid (KX6.out.keep k7 (by
          rintro (e | e | e)
          · exact blk_ne KX6.out L6.out.blk (by decide) e
          · exact L6.out.map.ne_blk KX6.out e.symm
          · exact blk_ne KX6.out R6.out.blk (by decide) e))
        have Q7 := Lib.hid (Below.refl w7.heap.size w7)
        clear hl7 hi7 hr7 k7 CD L6 R6 B6 C6 KX6
        have LF := Lib.hid L7.out
        have RF := Lib.hid R7.out
        have SA := Lib.hid (lawSame_any L7.out I7.out R7.out (by have := I7.out.len17; omega))
        go_wp2_with fail
        refine (SA.out).mono ?_
        rintro e v1 ⟨rfl, b1⟩
        have L_2 := Lib.hid (L7.out.below b1)
        have R_2 := Lib.hid (R7.out.below b1)
        have B_2 := Lib.hid (B7.out.trans (b1.mono B7.out.size))
        have KX_2 := Lib.hid (KX7.out.below b1 KX7.out.lt)
        have Q_2 := Lib.hid (Q7.out.trans (b1.mono Q7.out.size))
        clear L7 R7 B7 KX7 Q7
        clear b1
        clear SA
        have CL := Lib.hid (gline_any L_2.out I7.out.inv HX.out.a HX.out.b HX.out.c)
        rw [lineV_at] at CL
        obtain ⟨y, hy⟩ : ∃ y, lnAt ls7 x.a x.b x.c = y := ⟨_, rfl⟩
        obtain ⟨sm, hsm⟩ : ∃ sm, (lineL ls7 x.a x.b x.c).isSome = sm := ⟨_, rfl⟩
        rw [hy, hsm] at CL
        have kl := KX_2.out.lt
        have e0 := KX_2.out.cell 0
        have e1 := KX_2.out.cell 1
        have e2 := KX_2.out.cell 2
        have e3 := KX_2.out.cell 3
        have e4 := KX_2.out.cell 4
        simp at e0 e1 e2 e3 e4
        go_wp2_with fail
        clear kl e0 e1 e2 e3 e4
        refine (CL.out).mono ?_
        rintro e v3 ⟨rfl, b3⟩
        have L_4 := Lib.hid (L_2.out.below b3)
        have R_4 := Lib.hid (R_2.out.below b3)
        have B_4 := Lib.hid (B_2.out.trans (b3.mono B_2.out.size))
        have KX_4 := Lib.hid (KX_2.out.below b3 KX_2.out.lt)
        have Q_4 := Lib.hid (Q_2.out.trans (b3.mono Q_2.out.size))
        clear L_2 R_2 B_2 KX_2 Q_2
        clear b3
        clear CL
        have bz := (Below.refl v3.heap.size v3).alloc (Nat.le_refl _) (.cells #[.int .u8 y.cr, .int .u8 y.de, .int .u8 y.cu, .int .i64 y.li, .int .i64 y.db] 35)
        have KY := Lib.hid (Blk.new v3 #[.int .u8 y.cr, .int .u8 y.de, .int .u8 y.cu, .int .i64 y.li, .int .i64 y.db] 35)
        have L_5 := Lib.hid (L_4.out.below bz)
        have R_5 := Lib.hid (R_4.out.below bz)
        have B_5 := Lib.hid (B_4.out.trans (bz.mono B_4.out.size))
        have KX_5 := Lib.hid (KX_4.out.below bz KX_4.out.lt)
        have Q_5 := Lib.hid (Q_4.out.trans (bz.mono Q_4.out.size))
        clear L_4 R_4 B_4 KX_4 Q_4
        clear bz
        have CR := Lib.hid (rline_any R_5.out x.a x.b x.c)
        rw [lineV_at, hy, hsm] at CR
        clear hy hsm
        have kl := KX_5.out.lt
        have e0 := KX_5.out.cell 0
        have e1 := KX_5.out.cell 1
        have e2 := KX_5.out.cell 2
        have e3 := KX_5.out.cell 3
        have e4 := KX_5.out.cell 4
        simp at e0 e1 e2 e3 e4
        go_wp2_with fail
        clear kl e0 e1 e2 e3 e4
        refine (CR.out).mono ?_
        rintro e v6 ⟨rfl, b6⟩
        have L_7 := Lib.hid (L_5.out.below b6)
        have R_7 := Lib.hid (R_5.out.below b6)
        have B_7 := Lib.hid (B_5.out.trans (b6.mono B_5.out.size))
        have KX_7 := Lib.hid (KX_5.out.below b6 KX_5.out.lt)
        have Q_7 := Lib.hid (Q_5.out.trans (b6.mono Q_5.out.size))
        have KY_7 := Lib.hid (KY.out.below b6 KY.out.lt)
        clear L_5 R_5 B_5 KX_5 Q_5 KY
        clear b6
        clear CR
        have bz := (Below.refl v6.heap.size v6).alloc (Nat.le_refl _) (.cells #[.int .u8 y.cr, .int .u8 y.de, .int .u8 y.cu, .int .i64 y.li, .int .i64 y.db] 35)
        have KZ := Lib.hid (Blk.new v6 #[.int .u8 y.cr, .int .u8 y.de, .int .u8 y.cu, .int .i64 y.li, .int .i64 y.db] 35)
        have L_8 := Lib.hid (L_7.out.below bz)
        have R_8 := Lib.hid (R_7.out.below bz)
        have B_8 := Lib.hid (B_7.out.trans (bz.mono B_7.out.size))
        have KX_8 := Lib.hid (KX_7.out.below bz KX_7.out.lt)
        have Q_8 := Lib.hid (Q_7.out.trans (bz.mono Q_7.out.size))
        have KY_8 := Lib.hid (KY_7.out.below bz KY_7.out.lt)
        clear L_7 R_7 B_7 KX_7 Q_7 KY_7
        clear bz
        go_wp2_with fail
        generalize v6.alloc (.cells #[.int .u8 y.cr, .int .u8 y.de, .int .u8 y.cu, .int .i64 y.li, .int .i64 y.db] 35) = W at *
        have q1 := Lib.hid (fun w' (h : Below W.heap.size W w') => room_any (L_8.out.below h) I7.out HX.out.a HX.out.b HX.out.c)
        have q2 := Lib.hid (fun w' (h : Below W.heap.size W w') => rroom_any (R_8.out.below h) I7.out.inv.good x.a x.b x.c)
        have q3 := Lib.hid (fun w' (h : Below W.heap.size W w') => ppos_any (L_8.out.below h) I7.out x.a x.c)
        have q4 := Lib.hid (fun w' (h : Below W.heap.size W w') => calls_still (rposition_any (R_8.out.below h) I7.out.inv.good (by have := I7.out.len; omega) x.a x.c))
        have q5 := Lib.hid (fun w' (h : Below W.heap.size W w') => ptot_any (L_8.out.below h) I7.out x.c)
        have q6 := Lib.hid (fun w' (h : Below W.heap.size W w') => calls_still (rtotal_any (R_8.out.below h) I7.out.inv.good (by have := I7.out.len; omega) x.c))
        have q7 := Lib.hid (fun w' (h : Below W.heap.size W w') => calls_still2 (has_any (L_8.out.below h).blk I7.out.bd x.a))
        have q8 := Lib.hid (fun w' (h : Below W.heap.size W w') => calls_still (rhas_any (R_8.out.below h) x.a))
        refine play_r18 KX_8 KY_8 KZ q1 q2 q3 q4 q5 q6 q7 q8 ?_
        intro w20 b20
        have L_9 := Lib.hid (L_8.out.below b20)
        have R_9 := Lib.hid (R_8.out.below b20)
        have B_9 := Lib.hid (B_8.out.trans (b20.mono B_8.out.size))
        have KX_9 := Lib.hid (KX_8.out.below b20 KX_8.out.lt)
        have Q_9 := Lib.hid (Q_8.out.trans (b20.mono Q_8.out.size))
        have KY_9 := Lib.hid (KY_8.out.below b20 KY_8.out.lt)
        have KZ_9 := Lib.hid (KZ.out.below b20 KZ.out.lt)
        clear L_8 R_8 B_8 KX_8 Q_8 KY_8 KZ
        clear b20 q1 q2 q3 q4 q5 q6 q7 q8
        have CE := Lib.hid (C7.out.below LF.out RF.out Q_9.out)
        go_wp2_with fail
        go_roundw
        case rel => exact ⟨k + 1, ps7, ls7, vp7, vl7, by omega, by go_num, L_9.out, I7.out, R_9.out, B_9.out, CE.out⟩
        case measure => simp [intOf]; omega
      · have g1 : ((x.k % 16) == 7) = false := by simpa using h16
        have g2 : ((x.k.tmod 16) == 7) = false := by rw [Int.tmod_eq_emod_of_nonneg hx0]; exact g1
        have g3 : ¬ x.k % 16 = 7 := h16
        have g4 : decide (x.k % 16 = 7) = false := by simpa using h16
        clear h16 hx
        have L6 := Lib.hid L4.out
        have R6 := Lib.hid R4.out
        have B6 := Lib.hid B4.out
        have C6 := Lib.hid C4.out
        have KX6 := Lib.hid KX.out
        clear L4 R4 B4 C4 KX
        have CD := Lib.hid (does_any L6.out I3.out R6.out HX.out)
        have kl := KX6.out.lt
        have e0 := KX6.out.cell 0
        have e1 := KX6.out.cell 1
        have e2 := KX6.out.cell 2
        have e3 := KX6.out.cell 3
        have e4 := KX6.out.cell 4
        simp at e0 e1 e2 e3 e4
        go_wp2_with fail
        clear kl e0 e1 e2 e3 e4
        refine CD.out.mono ?_
        rintro e w7 ⟨rfl, k7, ps7, ls7, vp7, vl7, hl7, hi7, hr7⟩
        have L7 := Lib.hid hl7
        have I7 := Lib.hid hi7
        have R7 := Lib.hid hr7
        have B7 := Lib.hid (B6.out.trans (k7.below B6.out.size (fun b hb e => by
          have q1 := HG.out; have q2 := HM.out; have q3 := HB.out
          rcases e with e | e | e <;> omega)))
        have C7 := Lib.hid (C6.out.keep L6.out R6.out k7)
        have KX7 := Lib.hid (KX6.out.keep k7 (by
          rintro (e | e | e)
          · exact blk_ne KX6.out L6.out.blk (by decide) e
          · exact L6.out.map.ne_blk KX6.out e.symm
          · exact blk_ne KX6.out R6.out.blk (by decide) e))
        have Q7 := Lib.hid (Below.refl w7.heap.size w7)
        clear hl7 hi7 hr7 k7 CD L6 R6 B6 C6 KX6
        have LF := Lib.hid L7.out
        have RF := Lib.hid R7.out
        have SA := Lib.hid (lawSame_any L7.out I7.out R7.out (by have := I7.out.len17; omega))
        go_wp2_with fail
        refine (SA.out).mono ?_
        rintro e v1 ⟨rfl, b1⟩
        have L_2 := Lib.hid (L7.out.below b1)
        have R_2 := Lib.hid (R7.out.below b1)
        have B_2 := Lib.hid (B7.out.trans (b1.mono B7.out.size))
        have KX_2 := Lib.hid (KX7.out.below b1 KX7.out.lt)
        have Q_2 := Lib.hid (Q7.out.trans (b1.mono Q7.out.size))
        clear L7 R7 B7 KX7 Q7
        clear b1
        clear SA
        have CL := Lib.hid (gline_any L_2.out I7.out.inv HX.out.a HX.out.b HX.out.c)
        rw [lineV_at] at CL
        obtain ⟨y, hy⟩ : ∃ y, lnAt ls7 x.a x.b x.c = y := ⟨_, rfl⟩
        obtain ⟨sm, hsm⟩ : ∃ sm, (lineL ls7 x.a x.b x.c).isSome = sm := ⟨_, rfl⟩
        rw [hy, hsm] at CL
        have kl := KX_2.out.lt
        have e0 := KX_2.out.cell 0
        have e1 := KX_2.out.cell 1
        have e2 := KX_2.out.cell 2
        have e3 := KX_2.out.cell 3
        have e4 := KX_2.out.cell 4
        simp at e0 e1 e2 e3 e4
        go_wp2_with fail
        clear kl e0 e1 e2 e3 e4
        refine (CL.out).mono ?_
        rintro e v3 ⟨rfl, b3⟩
        have L_4 := Lib.hid (L_2.out.below b3)
        have R_4 := Lib.hid (R_2.out.below b3)
        have B_4 := Lib.hid (B_2.out.trans (b3.mono B_2.out.size))
        have KX_4 := Lib.hid (KX_2.out.below b3 KX_2.out.lt)
        have Q_4 := Lib.hid (Q_2.out.trans (b3.mono Q_2.out.size))
        clear L_2 R_2 B_2 KX_2 Q_2
        clear b3
        clear CL
        have bz := (Below.refl v3.heap.size v3).alloc (Nat.le_refl _) (.cells #[.int .u8 y.cr, .int .u8 y.de, .int .u8 y.cu, .int .i64 y.li, .int .i64 y.db] 35)
        have KY := Lib.hid (Blk.new v3 #[.int .u8 y.cr, .int .u8 y.de, .int .u8 y.cu, .int .i64 y.li, .int .i64 y.db] 35)
        have L_5 := Lib.hid (L_4.out.below bz)
        have R_5 := Lib.hid (R_4.out.below bz)
        have B_5 := Lib.hid (B_4.out.trans (bz.mono B_4.out.size))
        have KX_5 := Lib.hid (KX_4.out.below bz KX_4.out.lt)
        have Q_5 := Lib.hid (Q_4.out.trans (bz.mono Q_4.out.size))
        clear L_4 R_4 B_4 KX_4 Q_4
        clear bz
        have CR := Lib.hid (rline_any R_5.out x.a x.b x.c)
        rw [lineV_at, hy, hsm] at CR
        clear hy hsm
        have kl := KX_5.out.lt
        have e0 := KX_5.out.cell 0
        have e1 := KX_5.out.cell 1
        have e2 := KX_5.out.cell 2
        have e3 := KX_5.out.cell 3
        have e4 := KX_5.out.cell 4
        simp at e0 e1 e2 e3 e4
        go_wp2_with fail
        clear kl e0 e1 e2 e3 e4
        refine (CR.out).mono ?_
        rintro e v6 ⟨rfl, b6⟩
        have L_7 := Lib.hid (L_5.out.below b6)
        have R_7 := Lib.hid (R_5.out.below b6)
        have B_7 := Lib.hid (B_5.out.trans (b6.mono B_5.out.size))
        have KX_7 := Lib.hid (KX_5.out.below b6 KX_5.out.lt)
        have Q_7 := Lib.hid (Q_5.out.trans (b6.mono Q_5.out.size))
        have KY_7 := Lib.hid (KY.out.below b6 KY.out.lt)
        clear L_5 R_5 B_5 KX_5 Q_5 KY
        clear b6
        clear CR
        have bz := (Below.refl v6.heap.size v6).alloc (Nat.le_refl _) (.cells #[.int .u8 y.cr, .int .u8 y.de, .int .u8 y.cu, .int .i64 y.li, .int .i64 y.db] 35)
        have KZ := Lib.hid (Blk.new v6 #[.int .u8 y.cr, .int .u8 y.de, .int .u8 y.cu, .int .i64 y.li, .int .i64 y.db] 35)
        have L_8 := Lib.hid (L_7.out.below bz)
        have R_8 := Lib.hid (R_7.out.below bz)
        have B_8 := Lib.hid (B_7.out.trans (bz.mono B_7.out.size))
        have KX_8 := Lib.hid (KX_7.out.below bz KX_7.out.lt)
        have Q_8 := Lib.hid (Q_7.out.trans (bz.mono Q_7.out.size))
        have KY_8 := Lib.hid (KY_7.out.below bz KY_7.out.lt)
        clear L_7 R_7 B_7 KX_7 Q_7 KY_7
        clear bz
        go_wp2_with fail
        generalize v6.alloc (.cells #[.int .u8 y.cr, .int .u8 y.de, .int .u8 y.cu, .int .i64 y.li, .int .i64 y.db] 35) = W at *
        have q1 := Lib.hid (fun w' (h : Below W.heap.size W w') => room_any (L_8.out.below h) I7.out HX.out.a HX.out.b HX.out.c)
        have q2 := Lib.hid (fun w' (h : Below W.heap.size W w') => rroom_any (R_8.out.below h) I7.out.inv.good x.a x.b x.c)
        have q3 := Lib.hid (fun w' (h : Below W.heap.size W w') => ppos_any (L_8.out.below h) I7.out x.a x.c)
        have q4 := Lib.hid (fun w' (h : Below W.heap.size W w') => calls_still (rposition_any (R_8.out.below h) I7.out.inv.good (by have := I7.out.len; omega) x.a x.c))
        have q5 := Lib.hid (fun w' (h : Below W.heap.size W w') => ptot_any (L_8.out.below h) I7.out x.c)
        have q6 := Lib.hid (fun w' (h : Below W.heap.size W w') => calls_still (rtotal_any (R_8.out.below h) I7.out.inv.good (by have := I7.out.len; omega) x.c))
        have q7 := Lib.hid (fun w' (h : Below W.heap.size W w') => calls_still2 (has_any (L_8.out.below h).blk I7.out.bd x.a))
        have q8 := Lib.hid (fun w' (h : Below W.heap.size W w') => calls_still (rhas_any (R_8.out.below h) x.a))
        refine play_r18 KX_8 KY_8 KZ q1 q2 q3 q4 q5 q6 q7 q8 ?_
        intro w20 b20
        have L_9 := Lib.hid (L_8.out.below b20)
        have R_9 := Lib.hid (R_8.out.below b20)
        have B_9 := Lib.hid (B_8.out.trans (b20.mono B_8.out.size))
        have KX_9 := Lib.hid (KX_8.out.below b20 KX_8.out.lt)
        have Q_9 := Lib.hid (Q_8.out.trans (b20.mono Q_8.out.size))
        have KY_9 := Lib.hid (KY_8.out.below b20 KY_8.out.lt)
        have KZ_9 := Lib.hid (KZ.out.below b20 KZ.out.lt)
        clear L_8 R_8 B_8 KX_8 Q_8 KY_8 KZ
        clear b20 q1 q2 q3 q4 q5 q6 q7 q8
        have CE := Lib.hid (C7.out.below LF.out RF.out Q_9.out)
        go_wp2_with fail
        go_roundw
        case rel => exact ⟨k + 1, ps7, ls7, vp7, vl7, by omega, by go_num, L_9.out, I7.out, R_9.out, B_9.out, CE.out⟩
        case measure => simp [intOf]; omega
    · clear HA
      rcases C3.out with ⟨rfl, rfl⟩ | ⟨gc, mc, rc, bc, pc, lc, up, ul, rfl, rfl, _, _, _, hlc, hic, hrc⟩
      · clear C3
        have L5 := L3
        have R5 := R3
        have B5 := B3
        clear L3 R3 B3
        generalize hws : wr = ws at *
        clear hws
        have T0 := Lib.hid (TailS.start (w0 := w) L5.out R5.out B5.out)
        clear L5 R5 B5
        have CP := Lib.hid (pparties_any T0.out.led I3.out)
        go_wp2_with fail
        generalize ws.alloc (.cells #[.slice none 0 0] 44) = wt at *
        refine CP.out.mono ?_
        rintro e u0 ⟨pv0, rfl, hv0, b0⟩
        obtain ⟨ao0, pc0, rfl, hm0⟩ := rowed_party hv0
        have S0 := Lib.hid (T0.out.below b0)
        have FR0 := Lib.hid (fun b (hb : _ ≤ b) => T0.out.fresh hb)
        have HM0 := Lib.hid hm0
        clear hv0 b0 hm0 CP
        have CQ := Lib.hid (parties_any S0.out.book (by simp) ao0 ps.length pc0)
        go_wp2_with fail
        refine CQ.out.mono ?_
        rintro e x0 hp0
        have he0 := hp0.1
        subst he0
        obtain ⟨bv0, ht0⟩ := S0.out.add (HM0.out _ _).1 (fun b hb => FR0.out b ((HM0.out _ _).2 b hb)) hp0
        have T1 := Lib.hid ht0
        clear hp0 ht0 CQ S0 FR0 HM0 T0
        have CP := Lib.hid (pparties_any T1.out.led I3.out)
        go_wp2_with fail
        refine CP.out.mono ?_
        rintro e u1 ⟨pv1, rfl, hv1, b1⟩
        obtain ⟨ao1, pc1, rfl, hm1⟩ := rowed_party hv1
        have S1 := Lib.hid (T1.out.below b1)
        have FR1 := Lib.hid (fun b (hb : _ ≤ b) => T1.out.fresh hb)
        have HM1 := Lib.hid hm1
        clear hv1 b1 hm1 CP
        have CQ := Lib.hid (parties_any S1.out.book (by simp) ao1 ps.length pc1)
        go_wp2_with fail
        refine CQ.out.mono ?_
        rintro e x1 hp1
        have he1 := hp1.1
        subst he1
        obtain ⟨bv1, ht1⟩ := S1.out.add (HM1.out _ _).1 (fun b hb => FR1.out b ((HM1.out _ _).2 b hb)) hp1
        have T2 := Lib.hid ht1
        clear hp1 ht1 CQ S1 FR1 HM1 T1
        have CP := Lib.hid (plines_any T2.out.led I3.out)
        go_wp2_with fail
        refine CP.out.mono ?_
        rintro e u2 ⟨pv2, rfl, hv2, b2⟩
        obtain ⟨ao2, pc2, rfl, hm2⟩ := rowed_line hv2
        have S2 := Lib.hid (T2.out.below b2)
        have FR2 := Lib.hid (fun b (hb : _ ≤ b) => T2.out.fresh hb)
        have HM2 := Lib.hid hm2
        clear hv2 b2 hm2 CP
        have CQ := Lib.hid (lines_any S2.out.book (by simp) ao2 ls.length pc2)
        go_wp2_with fail
        refine CQ.out.mono ?_
        rintro e x2 hp2
        have he2 := hp2.1
        subst he2
        obtain ⟨bv2, ht2⟩ := S2.out.add (HM2.out _ _).1 (fun b hb => FR2.out b ((HM2.out _ _).2 b hb)) hp2
        have T3 := Lib.hid ht2
        clear hp2 ht2 CQ S2 FR2 HM2 T2
        have CP := Lib.hid (plines_any T3.out.led I3.out)
        go_wp2_with fail
        refine CP.out.mono ?_
        rintro e u3 ⟨pv3, rfl, hv3, b3⟩
        obtain ⟨ao3, pc3, rfl, hm3⟩ := rowed_line hv3
        have S3 := Lib.hid (T3.out.below b3)
        have FR3 := Lib.hid (fun b (hb : _ ≤ b) => T3.out.fresh hb)
        have HM3 := Lib.hid hm3
        clear hv3 b3 hm3 CP
        have CQ := Lib.hid (lines_any S3.out.book (by simp) ao3 ls.length pc3)
        go_wp2_with fail
        refine CQ.out.mono ?_
        rintro e x3 hp3
        have he3 := hp3.1
        subst he3
        obtain ⟨bv3, ht3⟩ := S3.out.add (HM3.out _ _).1 (fun b hb => FR3.out b ((HM3.out _ _).2 b hb)) hp3
        have T4 := Lib.hid ht3
        clear hp3 ht3 CQ S3 FR3 HM3 T3
        have CA := Lib.hid (apart_any T4.out.book (by simp) T4.out.mem T4.out.apart)
        go_wp2_with fail
        refine CA.out.mono ?_
        rintro e y1 ⟨rfl, ky⟩
        have L9 := Lib.hid (T4.out.led.keep ky (T4.out.nopage T4.out.under.1) (T4.out.nopage T4.out.under.2.1))
        have R9 := Lib.hid (T4.out.ref.keep ky (T4.out.nopage T4.out.under.2.2.1) (fun b hb => T4.out.nopage (T4.out.under.2.2.2.1 b hb)) (fun b hb => T4.out.nopage (T4.out.under.2.2.2.2 b hb)))
        have B9 := Lib.hid (T4.out.keep.trans (ky.below T4.out.keep.size (fun b hb => T4.out.nopage (by have := T4.out.ge; omega))))
        clear ky CA T4
        have SA := Lib.hid (lawSame_any L9.out I3.out R9.out (by have := I3.out.len17; omega))
        go_wp2_with fail
        refine SA.out.mono ?_
        rintro e y2 ⟨rfl, b⟩
        have B10 := Lib.hid (B9.out.trans (b.mono B9.out.size))
        clear b SA L9 R9 B9
        go_wp2_with fail
        refine (lives03_any _).mono ?_
        rintro e y3 ⟨rfl, b⟩
        have B11 := Lib.hid (B10.out.trans (b.mono B10.out.size))
        clear b B10
        go_wp2_with fail
        go_ret
        exact ⟨rfl, B11.out⟩
      · have SC := Lib.hid (lawSame_any hlc hic hrc (by have := hic.len17; omega))
        clear hlc hic hrc C3
        go_wp2_with fail
        refine SC.out.mono ?_
        rintro e w4 ⟨rfl, b4⟩
        have L5 := Lib.hid (L3.out.below b4)
        have R5 := Lib.hid (R3.out.below b4)
        have B5 := Lib.hid (B3.out.trans (b4.mono B3.out.size))
        clear b4 SC L3 R3 B3
        generalize hws : w4 = ws at *
        clear hws
        have T0 := Lib.hid (TailS.start (w0 := w) L5.out R5.out B5.out)
        clear L5 R5 B5
        have CP := Lib.hid (pparties_any T0.out.led I3.out)
        go_wp2_with fail
        generalize ws.alloc (.cells #[.slice none 0 0] 44) = wt at *
        refine CP.out.mono ?_
        rintro e u0 ⟨pv0, rfl, hv0, b0⟩
        obtain ⟨ao0, pc0, rfl, hm0⟩ := rowed_party hv0
        have S0 := Lib.hid (T0.out.below b0)
        have FR0 := Lib.hid (fun b (hb : _ ≤ b) => T0.out.fresh hb)
        have HM0 := Lib.hid hm0
        clear hv0 b0 hm0 CP
        have CQ := Lib.hid (parties_any S0.out.book (by simp) ao0 ps.length pc0)
        go_wp2_with fail
        refine CQ.out.mono ?_
        rintro e x0 hp0
        have he0 := hp0.1
        subst he0
        obtain ⟨bv0, ht0⟩ := S0.out.add (HM0.out _ _).1 (fun b hb => FR0.out b ((HM0.out _ _).2 b hb)) hp0
        have T1 := Lib.hid ht0
        clear hp0 ht0 CQ S0 FR0 HM0 T0
        have CP := Lib.hid (pparties_any T1.out.led I3.out)
        go_wp2_with fail
        refine CP.out.mono ?_
        rintro e u1 ⟨pv1, rfl, hv1, b1⟩
        obtain ⟨ao1, pc1, rfl, hm1⟩ := rowed_party hv1
        have S1 := Lib.hid (T1.out.below b1)
        have FR1 := Lib.hid (fun b (hb : _ ≤ b) => T1.out.fresh hb)
        have HM1 := Lib.hid hm1
        clear hv1 b1 hm1 CP
        have CQ := Lib.hid (parties_any S1.out.book (by simp) ao1 ps.length pc1)
        go_wp2_with fail
        refine CQ.out.mono ?_
        rintro e x1 hp1
        have he1 := hp1.1
        subst he1
        obtain ⟨bv1, ht1⟩ := S1.out.add (HM1.out _ _).1 (fun b hb => FR1.out b ((HM1.out _ _).2 b hb)) hp1
        have T2 := Lib.hid ht1
        clear hp1 ht1 CQ S1 FR1 HM1 T1
        have CP := Lib.hid (plines_any T2.out.led I3.out)
        go_wp2_with fail
        refine CP.out.mono ?_
        rintro e u2 ⟨pv2, rfl, hv2, b2⟩
        obtain ⟨ao2, pc2, rfl, hm2⟩ := rowed_line hv2
        have S2 := Lib.hid (T2.out.below b2)
        have FR2 := Lib.hid (fun b (hb : _ ≤ b) => T2.out.fresh hb)
        have HM2 := Lib.hid hm2
        clear hv2 b2 hm2 CP
        have CQ := Lib.hid (lines_any S2.out.book (by simp) ao2 ls.length pc2)
        go_wp2_with fail
        refine CQ.out.mono ?_
        rintro e x2 hp2
        have he2 := hp2.1
        subst he2
        obtain ⟨bv2, ht2⟩ := S2.out.add (HM2.out _ _).1 (fun b hb => FR2.out b ((HM2.out _ _).2 b hb)) hp2
        have T3 := Lib.hid ht2
        clear hp2 ht2 CQ S2 FR2 HM2 T2
        have CP := Lib.hid (plines_any T3.out.led I3.out)
        go_wp2_with fail
        refine CP.out.mono ?_
        rintro e u3 ⟨pv3, rfl, hv3, b3⟩
        obtain ⟨ao3, pc3, rfl, hm3⟩ := rowed_line hv3
        have S3 := Lib.hid (T3.out.below b3)
        have FR3 := Lib.hid (fun b (hb : _ ≤ b) => T3.out.fresh hb)
        have HM3 := Lib.hid hm3
        clear hv3 b3 hm3 CP
        have CQ := Lib.hid (lines_any S3.out.book (by simp) ao3 ls.length pc3)
        go_wp2_with fail
        refine CQ.out.mono ?_
        rintro e x3 hp3
        have he3 := hp3.1
        subst he3
        obtain ⟨bv3, ht3⟩ := S3.out.add (HM3.out _ _).1 (fun b hb => FR3.out b ((HM3.out _ _).2 b hb)) hp3
        have T4 := Lib.hid ht3
        clear hp3 ht3 CQ S3 FR3 HM3 T3
        have CA := Lib.hid (apart_any T4.out.book (by simp) T4.out.mem T4.out.apart)
        go_wp2_with fail
        refine CA.out.mono ?_
        rintro e y1 ⟨rfl, ky⟩
        have L9 := Lib.hid (T4.out.led.keep ky (T4.out.nopage T4.out.under.1) (T4.out.nopage T4.out.under.2.1))
        have R9 := Lib.hid (T4.out.ref.keep ky (T4.out.nopage T4.out.under.2.2.1) (fun b hb => T4.out.nopage (T4.out.under.2.2.2.1 b hb)) (fun b hb => T4.out.nopage (T4.out.under.2.2.2.2 b hb)))
        have B9 := Lib.hid (T4.out.keep.trans (ky.below T4.out.keep.size (fun b hb => T4.out.nopage (by have := T4.out.ge; omega))))
        clear ky CA T4
        have SA := Lib.hid (lawSame_any L9.out I3.out R9.out (by have := I3.out.len17; omega))
        go_wp2_with fail
        refine SA.out.mono ?_
        rintro e y2 ⟨rfl, b⟩
        have B10 := Lib.hid (B9.out.trans (b.mono B9.out.size))
        clear b SA L9 R9 B9
        go_wp2_with fail
        refine (lives03_any _).mono ?_
        rintro e y3 ⟨rfl, b⟩
        have B11 := Lib.hid (B10.out.trans (b.mono B10.out.size))
        clear b B10
        go_wp2_with fail
        go_ret
        exact ⟨rfl, B11.out⟩

end Go.Proofs.Ytlcilpeljnoclaa
