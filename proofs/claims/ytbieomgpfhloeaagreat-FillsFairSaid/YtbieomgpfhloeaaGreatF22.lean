/-
  Pieces of one proof, without what is not wanted: FairR.
-/
import Derived.Test.YtbieomgpfhloeaaGreatF01
import Derived.Test.YtbieomgpfhloeaaGreatF02
import Derived.Test.YtbieomgpfhloeaaGreatF03
import Derived.Test.YtbieomgpfhloeaaGreatF07
import Derived.Test.YtbieomgpfhloeaaGreatF18
import Derived.Test.YtbieomgpfhloeaaGreatF19
import Derived.Test.YtbieomgpfhloeaaGreatF20
import Derived.Test.YtbieomgpfhloeaaGreatF21
import Derived.Laws.AppendOwnNone
set_option linter.unusedSimpArgs false
set_option linter.unusedVariables false
namespace Go.Proofs.YtbieomgpfhloeaaGreat
open Go.RowKit
theorem slice_shape10 {w : World} {base : Nat} {e : TypeId} {size n m : Nat} {v : Value} {xs : List Value} (h : Rowed w base e size v n xs) (hm : n = m) : ∃ aa, v = .slice aa m m := by
 obtain ⟨aa, h, _⟩ := rowed_shape h
 exact ⟨aa, by rw [h, hm]⟩
set_option maxHeartbeats 16000000 in
set_option maxRecDepth 100000 in
theorem fair_r11 {W : World} {XF XH XD G M gb G2 M2 gb2 b1 b2 : Nat} {ps : List Int} {ls : List Ln} {l : List Of} {N : Int} {vb vb2 : Value} (KF : Hid (Blk W XF #[.int .u64 0, .int .u8 0, .int .u8 0, .int .i64 0, .int .i64 0] 48)) (KH : Hid (Blk W XH #[.pointer (some ⟨G, 0, none⟩), .pointer (some ⟨gb, 0, none⟩)] 32)) (KD : Hid (Blk W XD #[.pointer (some ⟨G2, 0, none⟩), .pointer (some ⟨gb2, 0, none⟩)] 32)) (L1 : Hid (LedM W G M ps ls)) (L2 : Hid (LedM W G2 M2 ps ls)) (II : Hid (LInv ps ls)) (P1 : Hid (PB W b1 gb l N vb)) (P2 : Hid (PB W b2 gb2 l N vb2)) (HN : Hid (ls.length ≤ 100000000 ∧ l.length ≤ 32)) (HLo : Hid Lives10) {Q : Exit → Act → World → Prop} {c0 c1 c2 c3 c4 c7 c10 c11 c12 c13 c14 c15 c16 c17 c18 c19 c20 c21 c22 c23 c24 c25 c26 c27 c28 c29 c30 c31 c32 c33 c34 c35 c36 c37 c38 c39 c40 c41 c42 c43 c44 c45 c46 c47 c48 c49 c50 c51 c52 c53 c54 c55 c56 c57 c58 c59 c60 c61 c62 c63 c64 c65 c66 c67 c68 c69 c70 c71 c72 c73 c74 c75 c76 c77 c78 c79 c80 c81 c82 c83 c84 c85 c86 c87 c88 c89 c90 c91 c92 c93 c94 c95 c96 c97 c98 c99 c100 c101 c102 c103 c104 c105 c106 c107 c108 c109 c110 c111 c112 c113 c114 c115 c116 c117 c118 c119 c120 c121 c122 c123 c124 c125 c126 c127 c128 c129 c130 c131 c132 c133 c134 c135 c136 c137 c138 c139 c140 c141 c142 c143 c144 c145 c146 c147 c148 c149 c150 c151 c152 c153 c154 c155 c156 c157 c158 c159 c160 c161 c162 c163 c164 c165 c166 c167 c168 c169 c170 c171 c172 c173 c174 c175 c176 c177 c178 c179 c180 c181 c182 c183 c184 c185 c186 c187 c188 c189 c190 c191 c192 c193 c194 c195 c196 c197 c198 c199 c200 : Value}
  (hq : ∀ w6 v10 v13 v19 v22, Below W.heap.size W w6 → Q .normal ⟨#[c0, c1, c2, c3, (.bool true), (.pointer (some ⟨XH, 0, none⟩)), (.pointer (some ⟨XD, 0, none⟩)), c7, (.pointer (some ⟨XF, 0, none⟩)), (.int .i64 1), c10, c11, c12, c13, c14, c15, c16, c17, c18, c19, c20, c21, c22, c23, c24, c25, c26, c27, c28, c29, c30, c31, c32, c33, c34, c35, c36, c37, c38, c39, c40, c41, c42, c43, c44, c45, c46, c47, c48, c49, c50, c51, c52, c53, c54, c55, c56, c57, c58, (.int .i64 1), (.bool true), (.bool true), (.agg #[.int .u64 0, .int .u8 0, .int .u8 0, .int .i64 0, .int .i64 0]), (.agg #[.int .u64 0, .int .u8 0, .int .u8 0, .int .i64 0, .int .i64 0]), (.bool true), (.bool true), (.bool true), (.pointer (some ⟨XH, 0, none⟩)), (.pointer (some ⟨G, 0, none⟩)), v10, (.pointer (some ⟨XD, 0, none⟩)), (.pointer (some ⟨G2, 0, none⟩)), v13, (.bool true), (.bool true), (.bool true), (.pointer (some ⟨XH, 1, none⟩)), (.pointer (some ⟨gb, 0, none⟩)), v19, (.pointer (some ⟨XD, 1, none⟩)), (.pointer (some ⟨gb2, 0, none⟩)), v22, (.bool true), (.bool true), (.bool true), (.bool true), (.bool true), c87, c88, c89, c90, c91, c92, c93, c94, c95, c96, c97, c98, c99, c100, c101, c102, c103, c104, c105, c106, c107, c108, c109, c110, c111, c112, c113, c114, c115, c116, c117, c118, c119, c120, c121, c122, c123, c124, c125, c126, c127, c128, c129, c130, c131, c132, c133, c134, c135, c136, c137, c138, c139, c140, c141, c142, c143, c144, c145, c146, c147, c148, c149, c150, c151, c152, c153, c154, c155, c156, c157, c158, c159, c160, c161, c162, c163, c164, c165, c166, c167, c168, c169, c170, c171, c172, c173, c174, c175, c176, c177, c178, c179, c180, c181, c182, c183, c184, c185, c186, c187, c188, c189, c190, c191, c192, c193, c194, c195, c196, c197, c198, c199, c200], []⟩ w6) :
  Code.wp Tryz.prog (((Tryz.f4.body).bind (regionNo 11)).getD .skip) Q ⟨#[c0, c1, c2, c3, c4, (.pointer (some ⟨XH, 0, none⟩)), (.pointer (some ⟨XD, 0, none⟩)), c7, (.pointer (some ⟨XF, 0, none⟩)), (.int .i64 1), c10, c11, c12, c13, c14, c15, c16, c17, c18, c19, c20, c21, c22, c23, c24, c25, c26, c27, c28, c29, c30, c31, c32, c33, c34, c35, c36, c37, c38, c39, c40, c41, c42, c43, c44, c45, c46, c47, c48, c49, c50, c51, c52, c53, c54, c55, c56, c57, c58, c59, c60, c61, c62, c63, c64, c65, c66, c67, c68, c69, c70, c71, c72, c73, c74, c75, c76, c77, c78, c79, c80, c81, c82, c83, c84, c85, c86, c87, c88, c89, c90, c91, c92, c93, c94, c95, c96, c97, c98, c99, c100, c101, c102, c103, c104, c105, c106, c107, c108, c109, c110, c111, c112, c113, c114, c115, c116, c117, c118, c119, c120, c121, c122, c123, c124, c125, c126, c127, c128, c129, c130, c131, c132, c133, c134, c135, c136, c137, c138, c139, c140, c141, c142, c143, c144, c145, c146, c147, c148, c149, c150, c151, c152, c153, c154, c155, c156, c157, c158, c159, c160, c161, c162, c163, c164, c165, c166, c167, c168, c169, c170, c171, c172, c173, c174, c175, c176, c177, c178, c179, c180, c181, c182, c183, c184, c185, c186, c187, c188, c189, c190, c191, c192, c193, c194, c195, c196, c197, c198, c199, c200], []⟩ W := by
 conv => arg 2; whnf
 have HQ := Lib.hid hq
 clear hq
 have hlasts : ∀ q ∈ ([(10, (fun v w => Reads w v 5 ls.length (lnCells ls))), (13, (fun v w => Reads w v 5 ls.length (lnCells ls))), (19, (fun v w => Reads w v 7 l.length (ofCells l))), (22, (fun v w => Reads w v 7 l.length (ofCells l)))] : List (Nat × (Value → World → Prop))), Lasts q.2 := by
  intro q hq
  simp only [List.mem_cons, List.not_mem_nil, or_false] at hq
  rcases hq with rfl | rfl | rfl | rfl
  ·exact fun v w w' h k => h.below k
  ·exact fun v w w' h k => h.below k
  ·exact fun v w w' h k => h.below k
  ·exact fun v w w' h k => h.below k
 have HL := Lib.hid hlasts
 clear hlasts
 refine region_fresh (by kernel_rfl) (fun s : Nat → Value => [(.int .i64 1), (.bool true), (.bool true), (.agg #[.int .u64 0, .int .u8 0, .int .u8 0, .int .i64 0, .int .i64 0]), (.agg #[.int .u64 0, .int .u8 0, .int .u8 0, .int .i64 0, .int .i64 0]), (.bool true), (.bool true), (.bool true), (.pointer (some ⟨XH, 0, none⟩)), (.pointer (some ⟨G, 0, none⟩)), s 10, (.pointer (some ⟨XD, 0, none⟩)), (.pointer (some ⟨G2, 0, none⟩)), s 13, (.bool true), (.bool true), (.bool true), (.pointer (some ⟨XH, 1, none⟩)), (.pointer (some ⟨gb, 0, none⟩)), s 19, (.pointer (some ⟨XD, 1, none⟩)), (.pointer (some ⟨gb2, 0, none⟩)), s 22, (.bool true), (.bool true), (.bool true), (.bool true), (.bool true), (.bool true)])
  (Got W [(10, (fun v w => Reads w v 5 ls.length (lnCells ls))), (13, (fun v w => Reads w v 5 ls.length (lnCells ls))), (19, (fun v w => Reads w v 7 l.length (ofCells l))), (22, (fun v w => Reads w v 7 l.length (ofCells l)))]) (by kernel_rfl) (fun _ => undef) (Got.start _ _ _) ?_
 intro AF hAF
 simp only [List.toList_toArray, puts, Act.put, List.getD_cons_zero, List.getD_cons_succ, List.setIfInBounds_toArray, List.set_cons_succ, List.set_cons_zero] at hAF
 have hAF2 : _ = AF := funext hAF
 subst hAF2
 clear hAF
 refine ⟨?_, ?_⟩
 ·simp only [List.toList_toArray, EachF]
  refine ⟨?_, ?_, ?_, ?_, ?_, ?_, ?_, ?_, ?_, ?_, ?_, ?_, ?_, ?_, ?_, ?_, ?_, ?_, ?_, ?_, ?_, ?_, ?_, ?_, ?_, ?_, ?_, ?_, ?_, trivial⟩
  ·intro s D w' hD hW hC hI
   have hS := hI.below
   refine .inl ⟨s, fun _ _ _ => rfl, ?_⟩
   with_reducible refine OpTo.plain ?_ ?_
   exact rfl
   have HS := Lib.hid (hI.step HL.out (Below.refl _ _) (k := 0) (by intro q hq; simp only [List.mem_cons, List.not_mem_nil, or_false] at hq; rcases hq with rfl | rfl | rfl | rfl <;> first | exact (show (10 : Nat) ≠ 0 by decide) | exact (show (13 : Nat) ≠ 0 by decide) | exact (show (19 : Nat) ≠ 0 by decide) | exact (show (22 : Nat) ≠ 0 by decide)))
   clear hI hS hC hW hD
   go_wp2_with fail
   all_goals first | exact HS.out | exact ⟨rfl, HS.out⟩ | rfl
  ·intro s D w' hD hW hC hI
   have hS := hI.below
   refine .inl ⟨s, fun _ _ _ => rfl, ?_⟩
   with_reducible refine OpTo.plain ?_ ?_
   exact rfl
   have HS := Lib.hid (hI.step HL.out (Below.refl _ _) (k := 1) (by intro q hq; simp only [List.mem_cons, List.not_mem_nil, or_false] at hq; rcases hq with rfl | rfl | rfl | rfl <;> first | exact (show (10 : Nat) ≠ 1 by decide) | exact (show (13 : Nat) ≠ 1 by decide) | exact (show (19 : Nat) ≠ 1 by decide) | exact (show (22 : Nat) ≠ 1 by decide)))
   clear hI hS hC hW hD
   go_wp2_with fail
   all_goals first | exact HS.out | exact ⟨rfl, HS.out⟩ | rfl
  ·intro s D w' hD hW hC hI
   have hS := hI.below
   refine .inl ⟨s, fun _ _ _ => rfl, ?_⟩
   with_reducible refine OpTo.plain ?_ ?_
   exact rfl
   have HS := Lib.hid (hI.step HL.out (Below.refl _ _) (k := 2) (by intro q hq; simp only [List.mem_cons, List.not_mem_nil, or_false] at hq; rcases hq with rfl | rfl | rfl | rfl <;> first | exact (show (10 : Nat) ≠ 2 by decide) | exact (show (13 : Nat) ≠ 2 by decide) | exact (show (19 : Nat) ≠ 2 by decide) | exact (show (22 : Nat) ≠ 2 by decide)))
   clear hI hS hC hW hD
   go_wp2_with fail
   all_goals first | exact HS.out | exact ⟨rfl, HS.out⟩ | rfl
  ·intro s D w' hD hW hC hI
   have hS := hI.below
   refine .inl ⟨s, fun _ _ _ => rfl, ?_⟩
   with_reducible refine OpTo.wanted ?_ ?_
   kernel_rfl
   have hl0 := Nat.lt_of_lt_of_le KF.out.lt hS.size
   have d0_0 := (KF.out.below hS KF.out.lt).cell 0
   have d0_1 := (KF.out.below hS KF.out.lt).cell 1
   have d0_2 := (KF.out.below hS KF.out.lt).cell 2
   have d0_3 := (KF.out.below hS KF.out.lt).cell 3
   have d0_4 := (KF.out.below hS KF.out.lt).cell 4
   simp at d0_0 d0_1 d0_2 d0_3 d0_4
   have HS := Lib.hid (hI.step HL.out (Below.refl _ _) (k := 3) (by intro q hq; simp only [List.mem_cons, List.not_mem_nil, or_false] at hq; rcases hq with rfl | rfl | rfl | rfl <;> first | exact (show (10 : Nat) ≠ 3 by decide) | exact (show (13 : Nat) ≠ 3 by decide) | exact (show (19 : Nat) ≠ 3 by decide) | exact (show (22 : Nat) ≠ 3 by decide)))
   clear hI hS hC hW hD
   go_wp2_with fail
   all_goals first | exact HS.out | exact ⟨rfl, HS.out⟩ | rfl
  ·intro s D w' hD hW hC hI
   have hS := hI.below
   refine .inl ⟨s, fun _ _ _ => rfl, ?_⟩
   with_reducible refine OpTo.wanted ?_ ?_
   kernel_rfl
   have HS := Lib.hid (hI.step HL.out (Below.refl _ _) (k := 4) (by intro q hq; simp only [List.mem_cons, List.not_mem_nil, or_false] at hq; rcases hq with rfl | rfl | rfl | rfl <;> first | exact (show (10 : Nat) ≠ 4 by decide) | exact (show (13 : Nat) ≠ 4 by decide) | exact (show (19 : Nat) ≠ 4 by decide) | exact (show (22 : Nat) ≠ 4 by decide)))
   clear hI hS hC hW hD
   go_wp2_with fail
   all_goals first | exact HS.out | exact ⟨rfl, HS.out⟩ | rfl
  ·intro s D w' hD hW hC hI
   have hS := hI.below
   refine .inl ⟨s, fun _ _ _ => rfl, ?_⟩
   with_reducible refine OpTo.wanted ?_ ?_
   kernel_rfl
   have HS := Lib.hid (hI.step HL.out (Below.refl _ _) (k := 5) (by intro q hq; simp only [List.mem_cons, List.not_mem_nil, or_false] at hq; rcases hq with rfl | rfl | rfl | rfl <;> first | exact (show (10 : Nat) ≠ 5 by decide) | exact (show (13 : Nat) ≠ 5 by decide) | exact (show (19 : Nat) ≠ 5 by decide) | exact (show (22 : Nat) ≠ 5 by decide)))
   clear hI hS hC hW hD
   go_wp2_with fail
   all_goals first | exact HS.out | exact ⟨rfl, HS.out⟩ | rfl
  ·intro s D w' hD hW hC hI
   have hS := hI.below
   refine .inl ⟨s, fun _ _ _ => rfl, ?_⟩
   with_reducible refine OpTo.plain ?_ ?_
   exact rfl
   have HS := Lib.hid (hI.step HL.out (Below.refl _ _) (k := 6) (by intro q hq; simp only [List.mem_cons, List.not_mem_nil, or_false] at hq; rcases hq with rfl | rfl | rfl | rfl <;> first | exact (show (10 : Nat) ≠ 6 by decide) | exact (show (13 : Nat) ≠ 6 by decide) | exact (show (19 : Nat) ≠ 6 by decide) | exact (show (22 : Nat) ≠ 6 by decide)))
   clear hI hS hC hW hD
   go_wp2_with fail
   all_goals first | exact HS.out | exact ⟨rfl, HS.out⟩ | rfl
  ·intro s D w' hD hW hC hI
   have hS := hI.below
   refine .inl ⟨s, fun _ _ _ => rfl, ?_⟩
   with_reducible refine OpTo.plain ?_ ?_
   exact rfl
   have HS := Lib.hid (hI.step HL.out (Below.refl _ _) (k := 7) (by intro q hq; simp only [List.mem_cons, List.not_mem_nil, or_false] at hq; rcases hq with rfl | rfl | rfl | rfl <;> first | exact (show (10 : Nat) ≠ 7 by decide) | exact (show (13 : Nat) ≠ 7 by decide) | exact (show (19 : Nat) ≠ 7 by decide) | exact (show (22 : Nat) ≠ 7 by decide)))
   clear hI hS hC hW hD
   go_wp2_with fail
   all_goals first | exact HS.out | exact ⟨rfl, HS.out⟩ | rfl
  ·intro s D w' hD hW hC hI
   have hS := hI.below
   refine .inl ⟨s, fun _ _ _ => rfl, ?_⟩
   with_reducible refine OpTo.wanted ?_ ?_
   kernel_rfl
   have hl0 := Nat.lt_of_lt_of_le KH.out.lt hS.size
   have HS := Lib.hid (hI.step HL.out (Below.refl _ _) (k := 8) (by intro q hq; simp only [List.mem_cons, List.not_mem_nil, or_false] at hq; rcases hq with rfl | rfl | rfl | rfl <;> first | exact (show (10 : Nat) ≠ 8 by decide) | exact (show (13 : Nat) ≠ 8 by decide) | exact (show (19 : Nat) ≠ 8 by decide) | exact (show (22 : Nat) ≠ 8 by decide)))
   clear hI hS hC hW hD
   go_wp2_with fail
   all_goals first | exact HS.out | exact ⟨rfl, HS.out⟩ | rfl
  ·intro s D w' hD hW hC hI
   have hS := hI.below
   refine .inl ⟨s, fun _ _ _ => rfl, ?_⟩
   with_reducible refine OpTo.wanted ?_ ?_
   kernel_rfl
   have hl0 := Nat.lt_of_lt_of_le KH.out.lt hS.size
   have d0_0 := (KH.out.below hS KH.out.lt).cell 0
   have d0_1 := (KH.out.below hS KH.out.lt).cell 1
   simp at d0_0 d0_1
   have HS := Lib.hid (hI.step HL.out (Below.refl _ _) (k := 9) (by intro q hq; simp only [List.mem_cons, List.not_mem_nil, or_false] at hq; rcases hq with rfl | rfl | rfl | rfl <;> first | exact (show (10 : Nat) ≠ 9 by decide) | exact (show (13 : Nat) ≠ 9 by decide) | exact (show (19 : Nat) ≠ 9 by decide) | exact (show (22 : Nat) ≠ 9 by decide)))
   clear hI hS hC hW hD
   go_wp2_with fail
   all_goals first | exact HS.out | exact ⟨rfl, HS.out⟩ | rfl
  ·intro s D w' hD hW hC hI
   have hS := hI.below
   have HI := Lib.hid hI
   have HCl := Lib.hid hC
   have HD := Lib.hid hD
   have HC := Lib.hid (plines_any (L1.out.below hS) II.out)
   refine .inr ?_
   with_reducible refine OpGets.wanted ?_ ?_
   kernel_rfl
   clear hI hS hC hW hD
   go_wp2_with fail
   refine HC.out.mono ?_
   rintro e w'' ⟨v, rfl, hv, hb2⟩
   refine ⟨v, rfl, updV s 10 v, vals_put _ (fun s : Nat → Value => [(.int .i64 1), (.bool true), (.bool true), (.agg #[.int .u64 0, .int .u8 0, .int .u8 0, .int .i64 0, .int .i64 0]), (.agg #[.int .u64 0, .int .u8 0, .int .u8 0, .int .i64 0, .int .i64 0]), (.bool true), (.bool true), (.bool true), (.pointer (some ⟨XH, 0, none⟩)), (.pointer (some ⟨G, 0, none⟩)), s 10, (.pointer (some ⟨XD, 0, none⟩)), (.pointer (some ⟨G2, 0, none⟩)), s 13, (.bool true), (.bool true), (.bool true), (.pointer (some ⟨XH, 1, none⟩)), (.pointer (some ⟨gb, 0, none⟩)), s 19, (.pointer (some ⟨XD, 1, none⟩)), (.pointer (some ⟨gb2, 0, none⟩)), s 22, (.bool true), (.bool true), (.bool true), (.bool true), (.bool true), (.bool true)]) s 10 v HCl.out HD.out ?_, rfl, HI.out.put HL.out hb2 ?_⟩
   ·intro j hj
    match j, hj with
    | 0, _ => exact .inr rfl
    | 1, _ => exact .inr rfl
    | 2, _ => exact .inr rfl
    | 3, _ => exact .inr rfl
    | 4, _ => exact .inr rfl
    | 5, _ => exact .inr rfl
    | 6, _ => exact .inr rfl
    | 7, _ => exact .inr rfl
    | 8, _ => exact .inr rfl
    | 9, _ => exact .inr rfl
    | 10, _ => exact .inl (.inl rfl)
    | 11, _ => exact .inr rfl
    | 12, _ => exact .inr rfl
    | 13, _ => exact .inr rfl
    | 14, _ => exact .inr rfl
    | 15, _ => exact .inr rfl
    | 16, _ => exact .inr rfl
    | 17, _ => exact .inr rfl
    | 18, _ => exact .inr rfl
    | 19, _ => exact .inr rfl
    | 20, _ => exact .inr rfl
    | 21, _ => exact .inr rfl
    | 22, _ => exact .inr rfl
    | 23, _ => exact .inr rfl
    | 24, _ => exact .inr rfl
    | 25, _ => exact .inr rfl
    | 26, _ => exact .inr rfl
    | 27, _ => exact .inr rfl
    | 28, _ => exact .inr rfl
    | j + 29, _ => exact .inr rfl
   ·intro q hq he
    simp only [List.mem_cons, List.not_mem_nil, or_false] at hq
    rcases hq with rfl | rfl | rfl | rfl <;> first | exact hv.reads HN.out.1 | exact absurd (show (13 : Nat) = 10 from he) (by decide) | exact absurd (show (19 : Nat) = 10 from he) (by decide) | exact absurd (show (22 : Nat) = 10 from he) (by decide)
  ·intro s D w' hD hW hC hI
   have hS := hI.below
   refine .inl ⟨s, fun _ _ _ => rfl, ?_⟩
   with_reducible refine OpTo.wanted ?_ ?_
   kernel_rfl
   have hl0 := Nat.lt_of_lt_of_le KD.out.lt hS.size
   have HS := Lib.hid (hI.step HL.out (Below.refl _ _) (k := 11) (by intro q hq; simp only [List.mem_cons, List.not_mem_nil, or_false] at hq; rcases hq with rfl | rfl | rfl | rfl <;> first | exact (show (10 : Nat) ≠ 11 by decide) | exact (show (13 : Nat) ≠ 11 by decide) | exact (show (19 : Nat) ≠ 11 by decide) | exact (show (22 : Nat) ≠ 11 by decide)))
   clear hI hS hC hW hD
   go_wp2_with fail
   all_goals first | exact HS.out | exact ⟨rfl, HS.out⟩ | rfl
  ·intro s D w' hD hW hC hI
   have hS := hI.below
   refine .inl ⟨s, fun _ _ _ => rfl, ?_⟩
   with_reducible refine OpTo.wanted ?_ ?_
   kernel_rfl
   have hl0 := Nat.lt_of_lt_of_le KD.out.lt hS.size
   have d0_0 := (KD.out.below hS KD.out.lt).cell 0
   have d0_1 := (KD.out.below hS KD.out.lt).cell 1
   simp at d0_0 d0_1
   have HS := Lib.hid (hI.step HL.out (Below.refl _ _) (k := 12) (by intro q hq; simp only [List.mem_cons, List.not_mem_nil, or_false] at hq; rcases hq with rfl | rfl | rfl | rfl <;> first | exact (show (10 : Nat) ≠ 12 by decide) | exact (show (13 : Nat) ≠ 12 by decide) | exact (show (19 : Nat) ≠ 12 by decide) | exact (show (22 : Nat) ≠ 12 by decide)))
   clear hI hS hC hW hD
   go_wp2_with fail
   all_goals first | exact HS.out | exact ⟨rfl, HS.out⟩ | rfl
  ·intro s D w' hD hW hC hI
   have hS := hI.below
   have HI := Lib.hid hI
   have HCl := Lib.hid hC
   have HD := Lib.hid hD
   have HC := Lib.hid (plines_any (L2.out.below hS) II.out)
   refine .inr ?_
   with_reducible refine OpGets.wanted ?_ ?_
   kernel_rfl
   clear hI hS hC hW hD
   go_wp2_with fail
   refine HC.out.mono ?_
   rintro e w'' ⟨v, rfl, hv, hb2⟩
   refine ⟨v, rfl, updV s 13 v, vals_put _ (fun s : Nat → Value => [(.int .i64 1), (.bool true), (.bool true), (.agg #[.int .u64 0, .int .u8 0, .int .u8 0, .int .i64 0, .int .i64 0]), (.agg #[.int .u64 0, .int .u8 0, .int .u8 0, .int .i64 0, .int .i64 0]), (.bool true), (.bool true), (.bool true), (.pointer (some ⟨XH, 0, none⟩)), (.pointer (some ⟨G, 0, none⟩)), s 10, (.pointer (some ⟨XD, 0, none⟩)), (.pointer (some ⟨G2, 0, none⟩)), s 13, (.bool true), (.bool true), (.bool true), (.pointer (some ⟨XH, 1, none⟩)), (.pointer (some ⟨gb, 0, none⟩)), s 19, (.pointer (some ⟨XD, 1, none⟩)), (.pointer (some ⟨gb2, 0, none⟩)), s 22, (.bool true), (.bool true), (.bool true), (.bool true), (.bool true), (.bool true)]) s 13 v HCl.out HD.out ?_, rfl, HI.out.put HL.out hb2 ?_⟩
   ·intro j hj
    match j, hj with
    | 0, _ => exact .inr rfl
    | 1, _ => exact .inr rfl
    | 2, _ => exact .inr rfl
    | 3, _ => exact .inr rfl
    | 4, _ => exact .inr rfl
    | 5, _ => exact .inr rfl
    | 6, _ => exact .inr rfl
    | 7, _ => exact .inr rfl
    | 8, _ => exact .inr rfl
    | 9, _ => exact .inr rfl
    | 10, _ => exact .inr rfl
    | 11, _ => exact .inr rfl
    | 12, _ => exact .inr rfl
    | 13, _ => exact .inl (.inl rfl)
    | 14, _ => exact .inr rfl
    | 15, _ => exact .inr rfl
    | 16, _ => exact .inr rfl
    | 17, _ => exact .inr rfl
    | 18, _ => exact .inr rfl
    | 19, _ => exact .inr rfl
    | 20, _ => exact .inr rfl
    | 21, _ => exact .inr rfl
    | 22, _ => exact .inr rfl
    | 23, _ => exact .inr rfl
    | 24, _ => exact .inr rfl
    | 25, _ => exact .inr rfl
    | 26, _ => exact .inr rfl
    | 27, _ => exact .inr rfl
    | 28, _ => exact .inr rfl
    | j + 29, _ => exact .inr rfl
   ·intro q hq he
    simp only [List.mem_cons, List.not_mem_nil, or_false] at hq
    rcases hq with rfl | rfl | rfl | rfl <;> first | exact hv.reads HN.out.1 | exact absurd (show (10 : Nat) = 13 from he) (by decide) | exact absurd (show (19 : Nat) = 13 from he) (by decide) | exact absurd (show (22 : Nat) = 13 from he) (by decide)
  ·intro s D w' hD hW hC hI
   have hS := hI.below
   refine .inl ⟨s, fun _ _ _ => rfl, ?_⟩
   with_reducible refine OpTo.wanted ?_ ?_
   kernel_rfl
   have hP10 : D 10 = true := need_waited hC hW (by kernel_rfl)
   have hq10 := hI.at (10, (fun v w => Reads w v 5 ls.length (lnCells ls))) (by simp) hP10
   dsimp only at hq10
   have hP13 : D 13 = true := need_waited hC hW (by kernel_rfl)
   have hq13 := hI.at (13, (fun v w => Reads w v 5 ls.length (lnCells ls))) (by simp) hP13
   dsimp only at hq13
   have HI := Lib.hid hI
   have HC := Lib.hid ((by have q := SameLines_any hq10 hq13; rw [decide_eq_true rfl] at q; exact q : Calls Tryz.prog 17 #[s 10, s 13] w' fun e w'' => e = .returned (.bool true) ∧ Below w'.heap.size w' w''))
   clear hI hS hC hW hD hP10 hq10 hP13 hq13
   go_wp2_with fail
   refine HC.out.mono ?_
   rintro e w'' ⟨rfl, hb2⟩
   exact ⟨rfl, HI.out.step HL.out hb2 (by intro q hq; simp only [List.mem_cons, List.not_mem_nil, or_false] at hq; rcases hq with rfl | rfl | rfl | rfl <;> first | exact (show (10 : Nat) ≠ 14 by decide) | exact (show (13 : Nat) ≠ 14 by decide) | exact (show (19 : Nat) ≠ 14 by decide) | exact (show (22 : Nat) ≠ 14 by decide))⟩
  ·intro s D w' hD hW hC hI
   have hS := hI.below
   refine .inl ⟨s, fun _ _ _ => rfl, ?_⟩
   with_reducible refine OpTo.plain ?_ ?_
   exact rfl
   have HS := Lib.hid (hI.step HL.out (Below.refl _ _) (k := 15) (by intro q hq; simp only [List.mem_cons, List.not_mem_nil, or_false] at hq; rcases hq with rfl | rfl | rfl | rfl <;> first | exact (show (10 : Nat) ≠ 15 by decide) | exact (show (13 : Nat) ≠ 15 by decide) | exact (show (19 : Nat) ≠ 15 by decide) | exact (show (22 : Nat) ≠ 15 by decide)))
   clear hI hS hC hW hD
   go_wp2_with fail
   all_goals first | exact HS.out | exact ⟨rfl, HS.out⟩ | rfl
  ·intro s D w' hD hW hC hI
   have hS := hI.below
   refine .inl ⟨s, fun _ _ _ => rfl, ?_⟩
   with_reducible refine OpTo.plain ?_ ?_
   exact rfl
   have HS := Lib.hid (hI.step HL.out (Below.refl _ _) (k := 16) (by intro q hq; simp only [List.mem_cons, List.not_mem_nil, or_false] at hq; rcases hq with rfl | rfl | rfl | rfl <;> first | exact (show (10 : Nat) ≠ 16 by decide) | exact (show (13 : Nat) ≠ 16 by decide) | exact (show (19 : Nat) ≠ 16 by decide) | exact (show (22 : Nat) ≠ 16 by decide)))
   clear hI hS hC hW hD
   go_wp2_with fail
   all_goals first | exact HS.out | exact ⟨rfl, HS.out⟩ | rfl
  ·intro s D w' hD hW hC hI
   have hS := hI.below
   refine .inl ⟨s, fun _ _ _ => rfl, ?_⟩
   with_reducible refine OpTo.wanted ?_ ?_
   kernel_rfl
   have hl0 := Nat.lt_of_lt_of_le KH.out.lt hS.size
   have HS := Lib.hid (hI.step HL.out (Below.refl _ _) (k := 17) (by intro q hq; simp only [List.mem_cons, List.not_mem_nil, or_false] at hq; rcases hq with rfl | rfl | rfl | rfl <;> first | exact (show (10 : Nat) ≠ 17 by decide) | exact (show (13 : Nat) ≠ 17 by decide) | exact (show (19 : Nat) ≠ 17 by decide) | exact (show (22 : Nat) ≠ 17 by decide)))
   clear hI hS hC hW hD
   go_wp2_with fail
   all_goals first | exact HS.out | exact ⟨rfl, HS.out⟩ | rfl
  ·intro s D w' hD hW hC hI
   have hS := hI.below
   refine .inl ⟨s, fun _ _ _ => rfl, ?_⟩
   with_reducible refine OpTo.wanted ?_ ?_
   kernel_rfl
   have hl0 := Nat.lt_of_lt_of_le KH.out.lt hS.size
   have d0_0 := (KH.out.below hS KH.out.lt).cell 0
   have d0_1 := (KH.out.below hS KH.out.lt).cell 1
   simp at d0_0 d0_1
   have HS := Lib.hid (hI.step HL.out (Below.refl _ _) (k := 18) (by intro q hq; simp only [List.mem_cons, List.not_mem_nil, or_false] at hq; rcases hq with rfl | rfl | rfl | rfl <;> first | exact (show (10 : Nat) ≠ 18 by decide) | exact (show (13 : Nat) ≠ 18 by decide) | exact (show (19 : Nat) ≠ 18 by decide) | exact (show (22 : Nat) ≠ 18 by decide)))
   clear hI hS hC hW hD
   go_wp2_with fail
   all_goals first | exact HS.out | exact ⟨rfl, HS.out⟩ | rfl
  ·intro s D w' hD hW hC hI
   have hS := hI.below
   have HI := Lib.hid hI
   have HCl := Lib.hid hC
   have HD := Lib.hid hD
   have HC := Lib.hid (pall_any (P1.out.below hS) (by have := HN.out.2; omega))
   refine .inr ?_
   with_reducible refine OpGets.wanted ?_ ?_
   kernel_rfl
   clear hI hS hC hW hD
   go_wp2_with fail
   refine HC.out.mono ?_
   rintro e w'' ⟨v, rfl, hv, hb2⟩
   refine ⟨v, rfl, updV s 19 v, vals_put _ (fun s : Nat → Value => [(.int .i64 1), (.bool true), (.bool true), (.agg #[.int .u64 0, .int .u8 0, .int .u8 0, .int .i64 0, .int .i64 0]), (.agg #[.int .u64 0, .int .u8 0, .int .u8 0, .int .i64 0, .int .i64 0]), (.bool true), (.bool true), (.bool true), (.pointer (some ⟨XH, 0, none⟩)), (.pointer (some ⟨G, 0, none⟩)), s 10, (.pointer (some ⟨XD, 0, none⟩)), (.pointer (some ⟨G2, 0, none⟩)), s 13, (.bool true), (.bool true), (.bool true), (.pointer (some ⟨XH, 1, none⟩)), (.pointer (some ⟨gb, 0, none⟩)), s 19, (.pointer (some ⟨XD, 1, none⟩)), (.pointer (some ⟨gb2, 0, none⟩)), s 22, (.bool true), (.bool true), (.bool true), (.bool true), (.bool true), (.bool true)]) s 19 v HCl.out HD.out ?_, rfl, HI.out.put HL.out hb2 ?_⟩
   ·intro j hj
    match j, hj with
    | 0, _ => exact .inr rfl
    | 1, _ => exact .inr rfl
    | 2, _ => exact .inr rfl
    | 3, _ => exact .inr rfl
    | 4, _ => exact .inr rfl
    | 5, _ => exact .inr rfl
    | 6, _ => exact .inr rfl
    | 7, _ => exact .inr rfl
    | 8, _ => exact .inr rfl
    | 9, _ => exact .inr rfl
    | 10, _ => exact .inr rfl
    | 11, _ => exact .inr rfl
    | 12, _ => exact .inr rfl
    | 13, _ => exact .inr rfl
    | 14, _ => exact .inr rfl
    | 15, _ => exact .inr rfl
    | 16, _ => exact .inr rfl
    | 17, _ => exact .inr rfl
    | 18, _ => exact .inr rfl
    | 19, _ => exact .inl (.inl rfl)
    | 20, _ => exact .inr rfl
    | 21, _ => exact .inr rfl
    | 22, _ => exact .inr rfl
    | 23, _ => exact .inr rfl
    | 24, _ => exact .inr rfl
    | 25, _ => exact .inr rfl
    | 26, _ => exact .inr rfl
    | 27, _ => exact .inr rfl
    | 28, _ => exact .inr rfl
    | j + 29, _ => exact .inr rfl
   ·intro q hq he
    simp only [List.mem_cons, List.not_mem_nil, or_false] at hq
    rcases hq with rfl | rfl | rfl | rfl <;> first | exact hv.reads (by have := HN.out.2; omega) | exact absurd (show (10 : Nat) = 19 from he) (by decide) | exact absurd (show (13 : Nat) = 19 from he) (by decide) | exact absurd (show (22 : Nat) = 19 from he) (by decide)
  ·intro s D w' hD hW hC hI
   have hS := hI.below
   refine .inl ⟨s, fun _ _ _ => rfl, ?_⟩
   with_reducible refine OpTo.wanted ?_ ?_
   kernel_rfl
   have hl0 := Nat.lt_of_lt_of_le KD.out.lt hS.size
   have HS := Lib.hid (hI.step HL.out (Below.refl _ _) (k := 20) (by intro q hq; simp only [List.mem_cons, List.not_mem_nil, or_false] at hq; rcases hq with rfl | rfl | rfl | rfl <;> first | exact (show (10 : Nat) ≠ 20 by decide) | exact (show (13 : Nat) ≠ 20 by decide) | exact (show (19 : Nat) ≠ 20 by decide) | exact (show (22 : Nat) ≠ 20 by decide)))
   clear hI hS hC hW hD
   go_wp2_with fail
   all_goals first | exact HS.out | exact ⟨rfl, HS.out⟩ | rfl
  ·intro s D w' hD hW hC hI
   have hS := hI.below
   refine .inl ⟨s, fun _ _ _ => rfl, ?_⟩
   with_reducible refine OpTo.wanted ?_ ?_
   kernel_rfl
   have hl0 := Nat.lt_of_lt_of_le KD.out.lt hS.size
   have d0_0 := (KD.out.below hS KD.out.lt).cell 0
   have d0_1 := (KD.out.below hS KD.out.lt).cell 1
   simp at d0_0 d0_1
   have HS := Lib.hid (hI.step HL.out (Below.refl _ _) (k := 21) (by intro q hq; simp only [List.mem_cons, List.not_mem_nil, or_false] at hq; rcases hq with rfl | rfl | rfl | rfl <;> first | exact (show (10 : Nat) ≠ 21 by decide) | exact (show (13 : Nat) ≠ 21 by decide) | exact (show (19 : Nat) ≠ 21 by decide) | exact (show (22 : Nat) ≠ 21 by decide)))
   clear hI hS hC hW hD
   go_wp2_with fail
   all_goals first | exact HS.out | exact ⟨rfl, HS.out⟩ | rfl
  ·intro s D w' hD hW hC hI
   have hS := hI.below
   have HI := Lib.hid hI
   have HCl := Lib.hid hC
   have HD := Lib.hid hD
   have HC := Lib.hid (pall_any (P2.out.below hS) (by have := HN.out.2; omega))
   refine .inr ?_
   with_reducible refine OpGets.wanted ?_ ?_
   kernel_rfl
   clear hI hS hC hW hD
   go_wp2_with fail
   refine HC.out.mono ?_
   rintro e w'' ⟨v, rfl, hv, hb2⟩
   refine ⟨v, rfl, updV s 22 v, vals_put _ (fun s : Nat → Value => [(.int .i64 1), (.bool true), (.bool true), (.agg #[.int .u64 0, .int .u8 0, .int .u8 0, .int .i64 0, .int .i64 0]), (.agg #[.int .u64 0, .int .u8 0, .int .u8 0, .int .i64 0, .int .i64 0]), (.bool true), (.bool true), (.bool true), (.pointer (some ⟨XH, 0, none⟩)), (.pointer (some ⟨G, 0, none⟩)), s 10, (.pointer (some ⟨XD, 0, none⟩)), (.pointer (some ⟨G2, 0, none⟩)), s 13, (.bool true), (.bool true), (.bool true), (.pointer (some ⟨XH, 1, none⟩)), (.pointer (some ⟨gb, 0, none⟩)), s 19, (.pointer (some ⟨XD, 1, none⟩)), (.pointer (some ⟨gb2, 0, none⟩)), s 22, (.bool true), (.bool true), (.bool true), (.bool true), (.bool true), (.bool true)]) s 22 v HCl.out HD.out ?_, rfl, HI.out.put HL.out hb2 ?_⟩
   ·intro j hj
    match j, hj with
    | 0, _ => exact .inr rfl
    | 1, _ => exact .inr rfl
    | 2, _ => exact .inr rfl
    | 3, _ => exact .inr rfl
    | 4, _ => exact .inr rfl
    | 5, _ => exact .inr rfl
    | 6, _ => exact .inr rfl
    | 7, _ => exact .inr rfl
    | 8, _ => exact .inr rfl
    | 9, _ => exact .inr rfl
    | 10, _ => exact .inr rfl
    | 11, _ => exact .inr rfl
    | 12, _ => exact .inr rfl
    | 13, _ => exact .inr rfl
    | 14, _ => exact .inr rfl
    | 15, _ => exact .inr rfl
    | 16, _ => exact .inr rfl
    | 17, _ => exact .inr rfl
    | 18, _ => exact .inr rfl
    | 19, _ => exact .inr rfl
    | 20, _ => exact .inr rfl
    | 21, _ => exact .inr rfl
    | 22, _ => exact .inl (.inl rfl)
    | 23, _ => exact .inr rfl
    | 24, _ => exact .inr rfl
    | 25, _ => exact .inr rfl
    | 26, _ => exact .inr rfl
    | 27, _ => exact .inr rfl
    | 28, _ => exact .inr rfl
    | j + 29, _ => exact .inr rfl
   ·intro q hq he
    simp only [List.mem_cons, List.not_mem_nil, or_false] at hq
    rcases hq with rfl | rfl | rfl | rfl <;> first | exact hv.reads (by have := HN.out.2; omega) | exact absurd (show (10 : Nat) = 22 from he) (by decide) | exact absurd (show (13 : Nat) = 22 from he) (by decide) | exact absurd (show (19 : Nat) = 22 from he) (by decide)
  ·intro s D w' hD hW hC hI
   have hS := hI.below
   refine .inl ⟨s, fun _ _ _ => rfl, ?_⟩
   with_reducible refine OpTo.wanted ?_ ?_
   kernel_rfl
   have hP19 : D 19 = true := need_waited hC hW (by kernel_rfl)
   have hq19 := hI.at (19, (fun v w => Reads w v 7 l.length (ofCells l))) (by simp) hP19
   dsimp only at hq19
   have hP22 : D 22 = true := need_waited hC hW (by kernel_rfl)
   have hq22 := hI.at (22, (fun v w => Reads w v 7 l.length (ofCells l))) (by simp) hP22
   dsimp only at hq22
   have HI := Lib.hid hI
   have HC := Lib.hid ((by have q := SameOffers_any hq19 hq22; rw [decide_eq_true rfl] at q; exact q : Calls Tryz.prog 19 #[s 19, s 22] w' fun e w'' => e = .returned (.bool true) ∧ Below w'.heap.size w' w''))
   clear hI hS hC hW hD hP19 hq19 hP22 hq22
   go_wp2_with fail
   refine HC.out.mono ?_
   rintro e w'' ⟨rfl, hb2⟩
   exact ⟨rfl, HI.out.step HL.out hb2 (by intro q hq; simp only [List.mem_cons, List.not_mem_nil, or_false] at hq; rcases hq with rfl | rfl | rfl | rfl <;> first | exact (show (10 : Nat) ≠ 23 by decide) | exact (show (13 : Nat) ≠ 23 by decide) | exact (show (19 : Nat) ≠ 23 by decide) | exact (show (22 : Nat) ≠ 23 by decide))⟩
  ·intro s D w' hD hW hC hI
   have hS := hI.below
   refine .inl ⟨s, fun _ _ _ => rfl, ?_⟩
   with_reducible refine OpTo.plain ?_ ?_
   exact rfl
   have HS := Lib.hid (hI.step HL.out (Below.refl _ _) (k := 24) (by intro q hq; simp only [List.mem_cons, List.not_mem_nil, or_false] at hq; rcases hq with rfl | rfl | rfl | rfl <;> first | exact (show (10 : Nat) ≠ 24 by decide) | exact (show (13 : Nat) ≠ 24 by decide) | exact (show (19 : Nat) ≠ 24 by decide) | exact (show (22 : Nat) ≠ 24 by decide)))
   clear hI hS hC hW hD
   go_wp2_with fail
   all_goals first | exact HS.out | exact ⟨rfl, HS.out⟩ | rfl
  ·intro s D w' hD hW hC hI
   have hS := hI.below
   refine .inl ⟨s, fun _ _ _ => rfl, ?_⟩
   with_reducible refine OpTo.plain ?_ ?_
   exact rfl
   have HS := Lib.hid (hI.step HL.out (Below.refl _ _) (k := 25) (by intro q hq; simp only [List.mem_cons, List.not_mem_nil, or_false] at hq; rcases hq with rfl | rfl | rfl | rfl <;> first | exact (show (10 : Nat) ≠ 25 by decide) | exact (show (13 : Nat) ≠ 25 by decide) | exact (show (19 : Nat) ≠ 25 by decide) | exact (show (22 : Nat) ≠ 25 by decide)))
   clear hI hS hC hW hD
   go_wp2_with fail
   all_goals first | exact HS.out | exact ⟨rfl, HS.out⟩ | rfl
  ·intro s D w' hD hW hC hI
   have hS := hI.below
   refine .inl ⟨s, fun _ _ _ => rfl, ?_⟩
   with_reducible refine OpTo.wanted ?_ ?_
   kernel_rfl
   have HI := Lib.hid hI
   have HC := Lib.hid (HLo.out w')
   clear hI hS hC hW hD
   go_wp2_with fail
   refine HC.out.mono ?_
   rintro e w'' ⟨rfl, hb2⟩
   exact ⟨rfl, HI.out.step HL.out hb2 (by intro q hq; simp only [List.mem_cons, List.not_mem_nil, or_false] at hq; rcases hq with rfl | rfl | rfl | rfl <;> first | exact (show (10 : Nat) ≠ 26 by decide) | exact (show (13 : Nat) ≠ 26 by decide) | exact (show (19 : Nat) ≠ 26 by decide) | exact (show (22 : Nat) ≠ 26 by decide))⟩
  ·intro s D w' hD hW hC hI
   have hS := hI.below
   refine .inl ⟨s, fun _ _ _ => rfl, ?_⟩
   with_reducible refine OpTo.plain ?_ ?_
   exact rfl
   have HS := Lib.hid (hI.step HL.out (Below.refl _ _) (k := 27) (by intro q hq; simp only [List.mem_cons, List.not_mem_nil, or_false] at hq; rcases hq with rfl | rfl | rfl | rfl <;> first | exact (show (10 : Nat) ≠ 27 by decide) | exact (show (13 : Nat) ≠ 27 by decide) | exact (show (19 : Nat) ≠ 27 by decide) | exact (show (22 : Nat) ≠ 27 by decide)))
   clear hI hS hC hW hD
   go_wp2_with fail
   all_goals first | exact HS.out | exact ⟨rfl, HS.out⟩ | rfl
  ·intro s D w' hD hW hC hI
   have hS := hI.below
   refine .inl ⟨s, fun _ _ _ => rfl, ?_⟩
   with_reducible refine OpTo.plain ?_ ?_
   exact rfl
   have HS := Lib.hid (hI.step HL.out (Below.refl _ _) (k := 28) (by intro q hq; simp only [List.mem_cons, List.not_mem_nil, or_false] at hq; rcases hq with rfl | rfl | rfl | rfl <;> first | exact (show (10 : Nat) ≠ 28 by decide) | exact (show (13 : Nat) ≠ 28 by decide) | exact (show (19 : Nat) ≠ 28 by decide) | exact (show (22 : Nat) ≠ 28 by decide)))
   clear hI hS hC hW hD
   go_wp2_with fail
   all_goals first | exact HS.out | exact ⟨rfl, HS.out⟩ | rfl
 intro s D w2 hall hI
 exact HQ.out w2 (s 10) (s 13) (s 19) (s 22) hI.below
set_option maxHeartbeats 16000000 in
set_option maxRecDepth 100000 in
theorem fair_r15t {W : World} {XO XH XD XP gb gb2 b1 b2 m1 m2 : Nat} {o : Of} {nn : Int} {l l2 : List Of} {N : Int} {vb vb2 ga ga2 : Value} (KO : Hid (Blk W XO #[.int .u64 o.se, .int .u8 o.ow, .int .u8 o.sl, .int .u8 o.bu, .int .i64 o.lf, .int .i64 o.nu, .int .i64 o.de] 60)) (KP : Hid (Blk W XP #[.int .u64 o.se, .int .u8 o.ow, .int .u8 o.sl, .int .u8 o.bu, .int .i64 (o.lf - nn), .int .i64 o.nu, .int .i64 o.de] 60)) (KH : Hid (Blk W XH #[ga, .pointer (some ⟨gb, 0, none⟩)] 32)) (KD : Hid (Blk W XD #[ga2, .pointer (some ⟨gb2, 0, none⟩)] 32)) (P1 : Hid (PB W b1 gb l N vb)) (P2 : Hid (PB W b2 gb2 l2 N vb2)) (HN : Hid (l.length ≤ 32 ∧ l2.length ≤ 32 ∧ l.length = m1 ∧ l2.length = m2)) (FACTS : Hid (decide (nn < o.lf) = true ∧ (1 ≤ nn ∧ nn ≤ 1099511627776 ∧ 1 ≤ o.lf ∧ o.lf ≤ 1099511627776) ∧ decide ((m1 : Int) < (m2 : Int) - 1) = false)) {Q : Exit → Act → World → Prop} {c0 c1 c2 c3 c4 c8 c9 c11 c14 c15 c16 c17 c18 c19 c20 c21 c22 c23 c24 c25 c26 c27 c28 c29 c30 c31 c32 c33 c34 c35 c36 c37 c38 c39 c40 c41 c42 c43 c44 c45 c46 c47 c48 c49 c50 c51 c52 c53 c54 c55 c56 c57 c58 c59 c60 c61 c62 c63 c64 c65 c66 c67 c68 c69 c70 c71 c72 c73 c74 c75 c76 c77 c78 c79 c80 c81 c82 c83 c84 c85 c86 c87 c88 c89 c90 c91 c92 c93 c94 c95 c96 c97 c98 c99 c100 c101 c102 c103 c104 c105 c106 c107 c108 c109 c110 c111 c112 c113 c114 c115 c116 c117 c118 c119 c120 c121 c122 c123 c124 c125 c126 c127 c128 c129 c130 c131 c132 c133 c134 c135 c136 c137 c138 c139 c140 c141 c142 c143 c144 c145 c146 c147 c148 c149 c150 c151 c152 c153 c154 c155 c156 c157 c158 c159 c160 c161 c162 c163 c164 c165 c166 c167 c168 c169 c170 c171 c172 c173 c174 c175 c176 c177 c178 c179 c180 c181 c182 c183 c184 c185 c186 c187 c188 c189 c190 c191 c192 c193 c194 c195 c196 c197 c198 c199 c200 : Value}
  (hq : ∀ w6 v21 v25, Below W.heap.size W w6 → Q .normal ⟨#[c0, c1, c2, c3, c4, (.pointer (some ⟨XH, 0, none⟩)), (.pointer (some ⟨XD, 0, none⟩)), (.int .i64 nn), c8, c9, (.pointer (some ⟨XO, 0, none⟩)), c11, (.pointer (some ⟨XP, 0, none⟩)), (.bool true), c14, c15, c16, c17, c18, c19, c20, c21, c22, c23, c24, c25, c26, c27, c28, c29, c30, c31, c32, c33, c34, c35, c36, c37, c38, c39, c40, c41, c42, c43, c44, c45, c46, c47, c48, c49, c50, c51, c52, c53, c54, c55, c56, c57, c58, c59, c60, c61, c62, c63, c64, c65, c66, c67, c68, c69, c70, c71, c72, c73, c74, c75, c76, c77, c78, c79, c80, c81, c82, c83, c84, c85, c86, c87, c88, c89, c90, c91, c92, c93, c94, c95, c96, c97, c98, c99, c100, c101, c102, c103, c104, c105, c106, c107, c108, c109, c110, c111, c112, c113, c114, c115, c116, c117, c118, c119, c120, c121, c122, c123, c124, c125, c126, c127, c128, c129, c130, c131, c132, c133, c134, c135, c136, c137, c138, c139, c140, c141, c142, c143, c144, c145, c146, c147, c148, c149, c150, c151, c152, c153, c154, c155, c156, c157, c158, c159, c160, c161, c162, c163, c164, c165, c166, c167, c168, c169, (.bool true), (.int .i64 nn), (.pointer (some ⟨XO, 4, none⟩)), (.int .i64 o.lf), (.bool true), (.bool false), (.bool false), (.bool true), (.bool true), (.pointer (some ⟨XP, 4, none⟩)), (.int .i64 (o.lf - nn)), (.pointer (some ⟨XO, 4, none⟩)), (.int .i64 o.lf), (.int .i64 nn), (.int .i64 (o.lf - nn)), (.bool false), (.bool false), (.bool false), (.bool false), (.pointer (some ⟨XH, 1, none⟩)), (.pointer (some ⟨gb, 0, none⟩)), v21, (.int .i64 (m1 : Nat)), (.pointer (some ⟨XD, 1, none⟩)), (.pointer (some ⟨gb2, 0, none⟩)), v25, (.int .i64 (m2 : Nat)), (.int .i64 ((m2 : Nat) - 1)), (.bool false), (.bool false), c200], []⟩ w6) :
  Code.wp Tryz.prog (((Tryz.f4.body).bind (regionNo 15)).getD .skip) Q ⟨#[c0, c1, c2, c3, c4, (.pointer (some ⟨XH, 0, none⟩)), (.pointer (some ⟨XD, 0, none⟩)), (.int .i64 nn), c8, c9, (.pointer (some ⟨XO, 0, none⟩)), c11, (.pointer (some ⟨XP, 0, none⟩)), (.bool true), c14, c15, c16, c17, c18, c19, c20, c21, c22, c23, c24, c25, c26, c27, c28, c29, c30, c31, c32, c33, c34, c35, c36, c37, c38, c39, c40, c41, c42, c43, c44, c45, c46, c47, c48, c49, c50, c51, c52, c53, c54, c55, c56, c57, c58, c59, c60, c61, c62, c63, c64, c65, c66, c67, c68, c69, c70, c71, c72, c73, c74, c75, c76, c77, c78, c79, c80, c81, c82, c83, c84, c85, c86, c87, c88, c89, c90, c91, c92, c93, c94, c95, c96, c97, c98, c99, c100, c101, c102, c103, c104, c105, c106, c107, c108, c109, c110, c111, c112, c113, c114, c115, c116, c117, c118, c119, c120, c121, c122, c123, c124, c125, c126, c127, c128, c129, c130, c131, c132, c133, c134, c135, c136, c137, c138, c139, c140, c141, c142, c143, c144, c145, c146, c147, c148, c149, c150, c151, c152, c153, c154, c155, c156, c157, c158, c159, c160, c161, c162, c163, c164, c165, c166, c167, c168, c169, c170, c171, c172, c173, c174, c175, c176, c177, c178, c179, c180, c181, c182, c183, c184, c185, c186, c187, c188, c189, c190, c191, c192, c193, c194, c195, c196, c197, c198, c199, c200], []⟩ W := by
 conv => arg 2; whnf
 have HQ := Lib.hid hq
 clear hq
 have hlasts : ∀ q ∈ ([(21, (fun v _ => ∃ aa, v = .slice aa m1 m1)), (25, (fun v _ => ∃ aa, v = .slice aa m2 m2))] : List (Nat × (Value → World → Prop))), Lasts q.2 := by
  intro q hq
  simp only [List.mem_cons, List.not_mem_nil, or_false] at hq
  rcases hq with rfl | rfl
  ·exact fun v w w' h k => h
  ·exact fun v w w' h k => h
 have HL := Lib.hid hlasts
 clear hlasts
 refine region_fresh (by kernel_rfl) (fun s : Nat → Value => [(.bool true), (.int .i64 nn), (.pointer (some ⟨XO, 4, none⟩)), (.int .i64 o.lf), (.bool true), (.bool false), (.bool false), (.bool true), (.bool true), (.pointer (some ⟨XP, 4, none⟩)), (.int .i64 (o.lf - nn)), (.pointer (some ⟨XO, 4, none⟩)), (.int .i64 o.lf), (.int .i64 nn), (.int .i64 (o.lf - nn)), (.bool false), (.bool false), (.bool false), (.bool false), (.pointer (some ⟨XH, 1, none⟩)), (.pointer (some ⟨gb, 0, none⟩)), s 21, (.int .i64 (m1 : Nat)), (.pointer (some ⟨XD, 1, none⟩)), (.pointer (some ⟨gb2, 0, none⟩)), s 25, (.int .i64 (m2 : Nat)), (.int .i64 ((m2 : Nat) - 1)), (.bool false), (.bool false)])
  (Got W [(21, (fun v _ => ∃ aa, v = .slice aa m1 m1)), (25, (fun v _ => ∃ aa, v = .slice aa m2 m2))]) (by kernel_rfl) (fun _ => undef) (Got.start _ _ _) ?_
 intro AF hAF
 simp only [List.toList_toArray, puts, Act.put, List.getD_cons_zero, List.getD_cons_succ, List.setIfInBounds_toArray, List.set_cons_succ, List.set_cons_zero] at hAF
 have hAF2 : _ = AF := funext hAF
 subst hAF2
 clear hAF
 refine ⟨?_, ?_⟩
 ·simp only [List.toList_toArray, EachF]
  refine ⟨?_, ?_, ?_, ?_, ?_, ?_, ?_, ?_, ?_, ?_, ?_, ?_, ?_, ?_, ?_, ?_, ?_, ?_, ?_, ?_, ?_, ?_, ?_, ?_, ?_, ?_, ?_, ?_, ?_, ?_, trivial⟩
  ·intro s D w' hD hW hC hI
   have hS := hI.below
   refine .inl ⟨s, fun _ _ _ => rfl, ?_⟩
   with_reducible refine OpTo.plain ?_ ?_
   exact rfl
   have HS := Lib.hid (hI.step HL.out (Below.refl _ _) (k := 0) (by intro q hq; simp only [List.mem_cons, List.not_mem_nil, or_false] at hq; rcases hq with rfl | rfl <;> first | exact (show (21 : Nat) ≠ 0 by decide) | exact (show (25 : Nat) ≠ 0 by decide)))
   clear hI hS hC hW hD
   go_wp2_with fail
   all_goals first | exact HS.out | exact ⟨rfl, HS.out⟩ | rfl
  ·intro s D w' hD hW hC hI
   have hS := hI.below
   refine .inl ⟨s, fun _ _ _ => rfl, ?_⟩
   with_reducible refine OpTo.plain ?_ ?_
   exact rfl
   have HS := Lib.hid (hI.step HL.out (Below.refl _ _) (k := 1) (by intro q hq; simp only [List.mem_cons, List.not_mem_nil, or_false] at hq; rcases hq with rfl | rfl <;> first | exact (show (21 : Nat) ≠ 1 by decide) | exact (show (25 : Nat) ≠ 1 by decide)))
   clear hI hS hC hW hD
   go_wp2_with fail
   all_goals first | exact HS.out | exact ⟨rfl, HS.out⟩ | rfl
  ·intro s D w' hD hW hC hI
   have hS := hI.below
   refine .inl ⟨s, fun _ _ _ => rfl, ?_⟩
   with_reducible refine OpTo.plain ?_ ?_
   exact rfl
   have hl0 := Nat.lt_of_lt_of_le KO.out.lt hS.size
   have HS := Lib.hid (hI.step HL.out (Below.refl _ _) (k := 2) (by intro q hq; simp only [List.mem_cons, List.not_mem_nil, or_false] at hq; rcases hq with rfl | rfl <;> first | exact (show (21 : Nat) ≠ 2 by decide) | exact (show (25 : Nat) ≠ 2 by decide)))
   clear hI hS hC hW hD
   go_wp2_with fail
   all_goals first | exact HS.out | exact ⟨rfl, HS.out⟩ | rfl
  ·intro s D w' hD hW hC hI
   have hS := hI.below
   refine .inl ⟨s, fun _ _ _ => rfl, ?_⟩
   with_reducible refine OpTo.plain ?_ ?_
   exact rfl
   have hl0 := Nat.lt_of_lt_of_le KO.out.lt hS.size
   have d0_0 := (KO.out.below hS KO.out.lt).cell 0
   have d0_1 := (KO.out.below hS KO.out.lt).cell 1
   have d0_2 := (KO.out.below hS KO.out.lt).cell 2
   have d0_3 := (KO.out.below hS KO.out.lt).cell 3
   have d0_4 := (KO.out.below hS KO.out.lt).cell 4
   have d0_5 := (KO.out.below hS KO.out.lt).cell 5
   have d0_6 := (KO.out.below hS KO.out.lt).cell 6
   simp at d0_0 d0_1 d0_2 d0_3 d0_4 d0_5 d0_6
   have HS := Lib.hid (hI.step HL.out (Below.refl _ _) (k := 3) (by intro q hq; simp only [List.mem_cons, List.not_mem_nil, or_false] at hq; rcases hq with rfl | rfl <;> first | exact (show (21 : Nat) ≠ 3 by decide) | exact (show (25 : Nat) ≠ 3 by decide)))
   clear hI hS hC hW hD
   go_wp2_with fail
   all_goals first | exact HS.out | exact ⟨rfl, HS.out⟩ | rfl
  ·intro s D w' hD hW hC hI
   have hS := hI.below
   refine .inl ⟨s, fun _ _ _ => rfl, ?_⟩
   with_reducible refine OpTo.plain ?_ ?_
   exact rfl
   have q1 := FACTS.out.1
   have HS := Lib.hid (hI.step HL.out (Below.refl _ _) (k := 4) (by intro q hq; simp only [List.mem_cons, List.not_mem_nil, or_false] at hq; rcases hq with rfl | rfl <;> first | exact (show (21 : Nat) ≠ 4 by decide) | exact (show (25 : Nat) ≠ 4 by decide)))
   clear hI hS hC hW hD
   go_wp2_with fail
   all_goals first | exact HS.out | exact ⟨rfl, HS.out⟩ | rfl
  ·intro s D w' hD hW hC hI
   have hS := hI.below
   refine .inl ⟨s, fun _ _ _ => rfl, ?_⟩
   with_reducible refine OpTo.plain ?_ ?_
   exact rfl
   have HS := Lib.hid (hI.step HL.out (Below.refl _ _) (k := 5) (by intro q hq; simp only [List.mem_cons, List.not_mem_nil, or_false] at hq; rcases hq with rfl | rfl <;> first | exact (show (21 : Nat) ≠ 5 by decide) | exact (show (25 : Nat) ≠ 5 by decide)))
   clear hI hS hC hW hD
   go_wp2_with fail
   all_goals first | exact HS.out | exact ⟨rfl, HS.out⟩ | rfl
  ·intro s D w' hD hW hC hI
   have hS := hI.below
   refine .inl ⟨s, fun _ _ _ => rfl, ?_⟩
   with_reducible refine OpTo.plain ?_ ?_
   exact rfl
   have HS := Lib.hid (hI.step HL.out (Below.refl _ _) (k := 6) (by intro q hq; simp only [List.mem_cons, List.not_mem_nil, or_false] at hq; rcases hq with rfl | rfl <;> first | exact (show (21 : Nat) ≠ 6 by decide) | exact (show (25 : Nat) ≠ 6 by decide)))
   clear hI hS hC hW hD
   go_wp2_with fail
   all_goals first | exact HS.out | exact ⟨rfl, HS.out⟩ | rfl
  ·intro s D w' hD hW hC hI
   have hS := hI.below
   refine .inl ⟨s, fun _ _ _ => rfl, ?_⟩
   with_reducible refine OpTo.wanted ?_ ?_
   kernel_rfl
   have HS := Lib.hid (hI.step HL.out (Below.refl _ _) (k := 7) (by intro q hq; simp only [List.mem_cons, List.not_mem_nil, or_false] at hq; rcases hq with rfl | rfl <;> first | exact (show (21 : Nat) ≠ 7 by decide) | exact (show (25 : Nat) ≠ 7 by decide)))
   clear hI hS hC hW hD
   go_wp2_with fail
   all_goals first | exact HS.out | exact ⟨rfl, HS.out⟩ | rfl
  ·intro s D w' hD hW hC hI
   have hS := hI.below
   refine .inl ⟨s, fun _ _ _ => rfl, ?_⟩
   with_reducible refine OpTo.wanted ?_ ?_
   kernel_rfl
   have HS := Lib.hid (hI.step HL.out (Below.refl _ _) (k := 8) (by intro q hq; simp only [List.mem_cons, List.not_mem_nil, or_false] at hq; rcases hq with rfl | rfl <;> first | exact (show (21 : Nat) ≠ 8 by decide) | exact (show (25 : Nat) ≠ 8 by decide)))
   clear hI hS hC hW hD
   go_wp2_with fail
   all_goals first | exact HS.out | exact ⟨rfl, HS.out⟩ | rfl
  ·intro s D w' hD hW hC hI
   have hS := hI.below
   refine .inl ⟨s, fun _ _ _ => rfl, ?_⟩
   with_reducible refine OpTo.wanted ?_ ?_
   kernel_rfl
   have hl0 := Nat.lt_of_lt_of_le KP.out.lt hS.size
   have HS := Lib.hid (hI.step HL.out (Below.refl _ _) (k := 9) (by intro q hq; simp only [List.mem_cons, List.not_mem_nil, or_false] at hq; rcases hq with rfl | rfl <;> first | exact (show (21 : Nat) ≠ 9 by decide) | exact (show (25 : Nat) ≠ 9 by decide)))
   clear hI hS hC hW hD
   go_wp2_with fail
   all_goals first | exact HS.out | exact ⟨rfl, HS.out⟩ | rfl
  ·intro s D w' hD hW hC hI
   have hS := hI.below
   refine .inl ⟨s, fun _ _ _ => rfl, ?_⟩
   with_reducible refine OpTo.wanted ?_ ?_
   kernel_rfl
   have hl0 := Nat.lt_of_lt_of_le KP.out.lt hS.size
   have d0_0 := (KP.out.below hS KP.out.lt).cell 0
   have d0_1 := (KP.out.below hS KP.out.lt).cell 1
   have d0_2 := (KP.out.below hS KP.out.lt).cell 2
   have d0_3 := (KP.out.below hS KP.out.lt).cell 3
   have d0_4 := (KP.out.below hS KP.out.lt).cell 4
   have d0_5 := (KP.out.below hS KP.out.lt).cell 5
   have d0_6 := (KP.out.below hS KP.out.lt).cell 6
   simp at d0_0 d0_1 d0_2 d0_3 d0_4 d0_5 d0_6
   have HS := Lib.hid (hI.step HL.out (Below.refl _ _) (k := 10) (by intro q hq; simp only [List.mem_cons, List.not_mem_nil, or_false] at hq; rcases hq with rfl | rfl <;> first | exact (show (21 : Nat) ≠ 10 by decide) | exact (show (25 : Nat) ≠ 10 by decide)))
   clear hI hS hC hW hD
   go_wp2_with fail
   all_goals first | exact HS.out | exact ⟨rfl, HS.out⟩ | rfl
  ·intro s D w' hD hW hC hI
   have hS := hI.below
   refine .inl ⟨s, fun _ _ _ => rfl, ?_⟩
   with_reducible refine OpTo.wanted ?_ ?_
   kernel_rfl
   have hl0 := Nat.lt_of_lt_of_le KO.out.lt hS.size
   have HS := Lib.hid (hI.step HL.out (Below.refl _ _) (k := 11) (by intro q hq; simp only [List.mem_cons, List.not_mem_nil, or_false] at hq; rcases hq with rfl | rfl <;> first | exact (show (21 : Nat) ≠ 11 by decide) | exact (show (25 : Nat) ≠ 11 by decide)))
   clear hI hS hC hW hD
   go_wp2_with fail
   all_goals first | exact HS.out | exact ⟨rfl, HS.out⟩ | rfl
  ·intro s D w' hD hW hC hI
   have hS := hI.below
   refine .inl ⟨s, fun _ _ _ => rfl, ?_⟩
   with_reducible refine OpTo.wanted ?_ ?_
   kernel_rfl
   have hl0 := Nat.lt_of_lt_of_le KO.out.lt hS.size
   have d0_0 := (KO.out.below hS KO.out.lt).cell 0
   have d0_1 := (KO.out.below hS KO.out.lt).cell 1
   have d0_2 := (KO.out.below hS KO.out.lt).cell 2
   have d0_3 := (KO.out.below hS KO.out.lt).cell 3
   have d0_4 := (KO.out.below hS KO.out.lt).cell 4
   have d0_5 := (KO.out.below hS KO.out.lt).cell 5
   have d0_6 := (KO.out.below hS KO.out.lt).cell 6
   simp at d0_0 d0_1 d0_2 d0_3 d0_4 d0_5 d0_6
   have HS := Lib.hid (hI.step HL.out (Below.refl _ _) (k := 12) (by intro q hq; simp only [List.mem_cons, List.not_mem_nil, or_false] at hq; rcases hq with rfl | rfl <;> first | exact (show (21 : Nat) ≠ 12 by decide) | exact (show (25 : Nat) ≠ 12 by decide)))
   clear hI hS hC hW hD
   go_wp2_with fail
   all_goals first | exact HS.out | exact ⟨rfl, HS.out⟩ | rfl
  ·intro s D w' hD hW hC hI
   have hS := hI.below
   refine .inl ⟨s, fun _ _ _ => rfl, ?_⟩
   with_reducible refine OpTo.wanted ?_ ?_
   kernel_rfl
   have HS := Lib.hid (hI.step HL.out (Below.refl _ _) (k := 13) (by intro q hq; simp only [List.mem_cons, List.not_mem_nil, or_false] at hq; rcases hq with rfl | rfl <;> first | exact (show (21 : Nat) ≠ 13 by decide) | exact (show (25 : Nat) ≠ 13 by decide)))
   clear hI hS hC hW hD
   go_wp2_with fail
   all_goals first | exact HS.out | exact ⟨rfl, HS.out⟩ | rfl
  ·intro s D w' hD hW hC hI
   have hS := hI.below
   refine .inl ⟨s, fun _ _ _ => rfl, ?_⟩
   with_reducible refine OpTo.wanted ?_ ?_
   kernel_rfl
   obtain ⟨b1, b2, b3, b4⟩ := FACTS.out.2.1
   have HS := Lib.hid (hI.step HL.out (Below.refl _ _) (k := 14) (by intro q hq; simp only [List.mem_cons, List.not_mem_nil, or_false] at hq; rcases hq with rfl | rfl <;> first | exact (show (21 : Nat) ≠ 14 by decide) | exact (show (25 : Nat) ≠ 14 by decide)))
   clear hI hS hC hW hD
   go_wp2_with fail
   all_goals first | exact HS.out | exact ⟨rfl, HS.out⟩ | rfl
  ·intro s D w' hD hW hC hI
   have hS := hI.below
   refine .inl ⟨s, fun _ _ _ => rfl, ?_⟩
   with_reducible refine OpTo.wanted ?_ ?_
   kernel_rfl
   have HS := Lib.hid (hI.step HL.out (Below.refl _ _) (k := 15) (by intro q hq; simp only [List.mem_cons, List.not_mem_nil, or_false] at hq; rcases hq with rfl | rfl <;> first | exact (show (21 : Nat) ≠ 15 by decide) | exact (show (25 : Nat) ≠ 15 by decide)))
   clear hI hS hC hW hD
   go_wp2_with fail
   all_goals first | exact HS.out | exact ⟨rfl, HS.out⟩ | rfl
  ·intro s D w' hD hW hC hI
   have hS := hI.below
   refine .inl ⟨s, fun _ _ _ => rfl, ?_⟩
   with_reducible refine OpTo.wanted ?_ ?_
   kernel_rfl
   have HS := Lib.hid (hI.step HL.out (Below.refl _ _) (k := 16) (by intro q hq; simp only [List.mem_cons, List.not_mem_nil, or_false] at hq; rcases hq with rfl | rfl <;> first | exact (show (21 : Nat) ≠ 16 by decide) | exact (show (25 : Nat) ≠ 16 by decide)))
   clear hI hS hC hW hD
   go_wp2_with fail
   all_goals first | exact HS.out | exact ⟨rfl, HS.out⟩ | rfl
  ·intro s D w' hD hW hC hI
   have hS := hI.below
   refine .inl ⟨s, fun _ _ _ => rfl, ?_⟩
   with_reducible refine OpTo.plain ?_ ?_
   exact rfl
   have HS := Lib.hid (hI.step HL.out (Below.refl _ _) (k := 17) (by intro q hq; simp only [List.mem_cons, List.not_mem_nil, or_false] at hq; rcases hq with rfl | rfl <;> first | exact (show (21 : Nat) ≠ 17 by decide) | exact (show (25 : Nat) ≠ 17 by decide)))
   clear hI hS hC hW hD
   go_wp2_with fail
   all_goals first | exact HS.out | exact ⟨rfl, HS.out⟩ | rfl
  ·intro s D w' hD hW hC hI
   have hS := hI.below
   refine .inl ⟨s, fun _ _ _ => rfl, ?_⟩
   with_reducible refine OpTo.plain ?_ ?_
   exact rfl
   have HS := Lib.hid (hI.step HL.out (Below.refl _ _) (k := 18) (by intro q hq; simp only [List.mem_cons, List.not_mem_nil, or_false] at hq; rcases hq with rfl | rfl <;> first | exact (show (21 : Nat) ≠ 18 by decide) | exact (show (25 : Nat) ≠ 18 by decide)))
   clear hI hS hC hW hD
   go_wp2_with fail
   all_goals first | exact HS.out | exact ⟨rfl, HS.out⟩ | rfl
  ·intro s D w' hD hW hC hI
   have hS := hI.below
   refine .inl ⟨s, fun _ _ _ => rfl, ?_⟩
   with_reducible refine OpTo.wanted ?_ ?_
   kernel_rfl
   have hl0 := Nat.lt_of_lt_of_le KH.out.lt hS.size
   have HS := Lib.hid (hI.step HL.out (Below.refl _ _) (k := 19) (by intro q hq; simp only [List.mem_cons, List.not_mem_nil, or_false] at hq; rcases hq with rfl | rfl <;> first | exact (show (21 : Nat) ≠ 19 by decide) | exact (show (25 : Nat) ≠ 19 by decide)))
   clear hI hS hC hW hD
   go_wp2_with fail
   all_goals first | exact HS.out | exact ⟨rfl, HS.out⟩ | rfl
  ·intro s D w' hD hW hC hI
   have hS := hI.below
   refine .inl ⟨s, fun _ _ _ => rfl, ?_⟩
   with_reducible refine OpTo.wanted ?_ ?_
   kernel_rfl
   have hl0 := Nat.lt_of_lt_of_le KH.out.lt hS.size
   have d0_0 := (KH.out.below hS KH.out.lt).cell 0
   have d0_1 := (KH.out.below hS KH.out.lt).cell 1
   simp at d0_0 d0_1
   have HS := Lib.hid (hI.step HL.out (Below.refl _ _) (k := 20) (by intro q hq; simp only [List.mem_cons, List.not_mem_nil, or_false] at hq; rcases hq with rfl | rfl <;> first | exact (show (21 : Nat) ≠ 20 by decide) | exact (show (25 : Nat) ≠ 20 by decide)))
   clear hI hS hC hW hD
   go_wp2_with fail
   all_goals first | exact HS.out | exact ⟨rfl, HS.out⟩ | rfl
  ·intro s D w' hD hW hC hI
   have hS := hI.below
   have HI := Lib.hid hI
   have HCl := Lib.hid hC
   have HD := Lib.hid hD
   have HC := Lib.hid (pall_any (P1.out.below hS) (by have := HN.out.1; omega))
   refine .inr ?_
   with_reducible refine OpGets.wanted ?_ ?_
   kernel_rfl
   clear hI hS hC hW hD
   go_wp2_with fail
   refine HC.out.mono ?_
   rintro e w'' ⟨v, rfl, hv, hb2⟩
   refine ⟨v, rfl, updV s 21 v, vals_put _ (fun s : Nat → Value => [(.bool true), (.int .i64 nn), (.pointer (some ⟨XO, 4, none⟩)), (.int .i64 o.lf), (.bool true), (.bool false), (.bool false), (.bool true), (.bool true), (.pointer (some ⟨XP, 4, none⟩)), (.int .i64 (o.lf - nn)), (.pointer (some ⟨XO, 4, none⟩)), (.int .i64 o.lf), (.int .i64 nn), (.int .i64 (o.lf - nn)), (.bool false), (.bool false), (.bool false), (.bool false), (.pointer (some ⟨XH, 1, none⟩)), (.pointer (some ⟨gb, 0, none⟩)), s 21, (.int .i64 (m1 : Nat)), (.pointer (some ⟨XD, 1, none⟩)), (.pointer (some ⟨gb2, 0, none⟩)), s 25, (.int .i64 (m2 : Nat)), (.int .i64 ((m2 : Nat) - 1)), (.bool false), (.bool false)]) s 21 v HCl.out HD.out ?_, rfl, HI.out.put HL.out hb2 ?_⟩
   ·intro j hj
    match j, hj with
    | 0, _ => exact .inr rfl
    | 1, _ => exact .inr rfl
    | 2, _ => exact .inr rfl
    | 3, _ => exact .inr rfl
    | 4, _ => exact .inr rfl
    | 5, _ => exact .inr rfl
    | 6, _ => exact .inr rfl
    | 7, _ => exact .inr rfl
    | 8, _ => exact .inr rfl
    | 9, _ => exact .inr rfl
    | 10, _ => exact .inr rfl
    | 11, _ => exact .inr rfl
    | 12, _ => exact .inr rfl
    | 13, _ => exact .inr rfl
    | 14, _ => exact .inr rfl
    | 15, _ => exact .inr rfl
    | 16, _ => exact .inr rfl
    | 17, _ => exact .inr rfl
    | 18, _ => exact .inr rfl
    | 19, _ => exact .inr rfl
    | 20, _ => exact .inr rfl
    | 21, _ => exact .inl (.inl rfl)
    | 22, _ => exact .inr rfl
    | 23, _ => exact .inr rfl
    | 24, _ => exact .inr rfl
    | 25, _ => exact .inr rfl
    | 26, _ => exact .inr rfl
    | 27, _ => exact .inr rfl
    | 28, _ => exact .inr rfl
    | 29, _ => exact .inr rfl
    | j + 30, _ => exact .inr rfl
   ·intro q hq he
    simp only [List.mem_cons, List.not_mem_nil, or_false] at hq
    rcases hq with rfl | rfl <;> first | exact slice_shape10 hv HN.out.2.2.1 | exact absurd (show (25 : Nat) = 21 from he) (by decide)
  ·intro s D w' hD hW hC hI
   have hS := hI.below
   refine .inl ⟨s, fun _ _ _ => rfl, ?_⟩
   with_reducible refine OpTo.wanted ?_ ?_
   kernel_rfl
   have hP : D 21 = true := need_waited hC hW (by kernel_rfl)
   have hq := hI.at (21, (fun v _ => ∃ aa, v = .slice aa m1 m1)) (by simp) hP
   dsimp only at hq
   obtain ⟨aa, hsl⟩ := hq
   have HS := Lib.hid (hI.step HL.out (Below.refl _ _) (k := 22) (by intro q hq; simp only [List.mem_cons, List.not_mem_nil, or_false] at hq; rcases hq with rfl | rfl <;> first | exact (show (21 : Nat) ≠ 22 by decide) | exact (show (25 : Nat) ≠ 22 by decide)))
   clear hI hS hC hW hD
   go_wp2_with fail
   all_goals first | exact HS.out | exact ⟨rfl, HS.out⟩ | rfl
  ·intro s D w' hD hW hC hI
   have hS := hI.below
   refine .inl ⟨s, fun _ _ _ => rfl, ?_⟩
   with_reducible refine OpTo.wanted ?_ ?_
   kernel_rfl
   have hl0 := Nat.lt_of_lt_of_le KD.out.lt hS.size
   have HS := Lib.hid (hI.step HL.out (Below.refl _ _) (k := 23) (by intro q hq; simp only [List.mem_cons, List.not_mem_nil, or_false] at hq; rcases hq with rfl | rfl <;> first | exact (show (21 : Nat) ≠ 23 by decide) | exact (show (25 : Nat) ≠ 23 by decide)))
   clear hI hS hC hW hD
   go_wp2_with fail
   all_goals first | exact HS.out | exact ⟨rfl, HS.out⟩ | rfl
  ·intro s D w' hD hW hC hI
   have hS := hI.below
   refine .inl ⟨s, fun _ _ _ => rfl, ?_⟩
   with_reducible refine OpTo.wanted ?_ ?_
   kernel_rfl
   have hl0 := Nat.lt_of_lt_of_le KD.out.lt hS.size
   have d0_0 := (KD.out.below hS KD.out.lt).cell 0
   have d0_1 := (KD.out.below hS KD.out.lt).cell 1
   simp at d0_0 d0_1
   have HS := Lib.hid (hI.step HL.out (Below.refl _ _) (k := 24) (by intro q hq; simp only [List.mem_cons, List.not_mem_nil, or_false] at hq; rcases hq with rfl | rfl <;> first | exact (show (21 : Nat) ≠ 24 by decide) | exact (show (25 : Nat) ≠ 24 by decide)))
   clear hI hS hC hW hD
   go_wp2_with fail
   all_goals first | exact HS.out | exact ⟨rfl, HS.out⟩ | rfl
  ·intro s D w' hD hW hC hI
   have hS := hI.below
   have HI := Lib.hid hI
   have HCl := Lib.hid hC
   have HD := Lib.hid hD
   have HC := Lib.hid (pall_any (P2.out.below hS) (by have := HN.out.2.1; omega))
   refine .inr ?_
   with_reducible refine OpGets.wanted ?_ ?_
   kernel_rfl
   clear hI hS hC hW hD
   go_wp2_with fail
   refine HC.out.mono ?_
   rintro e w'' ⟨v, rfl, hv, hb2⟩
   refine ⟨v, rfl, updV s 25 v, vals_put _ (fun s : Nat → Value => [(.bool true), (.int .i64 nn), (.pointer (some ⟨XO, 4, none⟩)), (.int .i64 o.lf), (.bool true), (.bool false), (.bool false), (.bool true), (.bool true), (.pointer (some ⟨XP, 4, none⟩)), (.int .i64 (o.lf - nn)), (.pointer (some ⟨XO, 4, none⟩)), (.int .i64 o.lf), (.int .i64 nn), (.int .i64 (o.lf - nn)), (.bool false), (.bool false), (.bool false), (.bool false), (.pointer (some ⟨XH, 1, none⟩)), (.pointer (some ⟨gb, 0, none⟩)), s 21, (.int .i64 (m1 : Nat)), (.pointer (some ⟨XD, 1, none⟩)), (.pointer (some ⟨gb2, 0, none⟩)), s 25, (.int .i64 (m2 : Nat)), (.int .i64 ((m2 : Nat) - 1)), (.bool false), (.bool false)]) s 25 v HCl.out HD.out ?_, rfl, HI.out.put HL.out hb2 ?_⟩
   ·intro j hj
    match j, hj with
    | 0, _ => exact .inr rfl
    | 1, _ => exact .inr rfl
    | 2, _ => exact .inr rfl
    | 3, _ => exact .inr rfl
    | 4, _ => exact .inr rfl
    | 5, _ => exact .inr rfl
    | 6, _ => exact .inr rfl
    | 7, _ => exact .inr rfl
    | 8, _ => exact .inr rfl
    | 9, _ => exact .inr rfl
    | 10, _ => exact .inr rfl
    | 11, _ => exact .inr rfl
    | 12, _ => exact .inr rfl
    | 13, _ => exact .inr rfl
    | 14, _ => exact .inr rfl
    | 15, _ => exact .inr rfl
    | 16, _ => exact .inr rfl
    | 17, _ => exact .inr rfl
    | 18, _ => exact .inr rfl
    | 19, _ => exact .inr rfl
    | 20, _ => exact .inr rfl
    | 21, _ => exact .inr rfl
    | 22, _ => exact .inr rfl
    | 23, _ => exact .inr rfl
    | 24, _ => exact .inr rfl
    | 25, _ => exact .inl (.inl rfl)
    | 26, _ => exact .inr rfl
    | 27, _ => exact .inr rfl
    | 28, _ => exact .inr rfl
    | 29, _ => exact .inr rfl
    | j + 30, _ => exact .inr rfl
   ·intro q hq he
    simp only [List.mem_cons, List.not_mem_nil, or_false] at hq
    rcases hq with rfl | rfl <;> first | exact slice_shape10 hv HN.out.2.2.2 | exact absurd (show (21 : Nat) = 25 from he) (by decide)
  ·intro s D w' hD hW hC hI
   have hS := hI.below
   refine .inl ⟨s, fun _ _ _ => rfl, ?_⟩
   with_reducible refine OpTo.wanted ?_ ?_
   kernel_rfl
   have hP : D 25 = true := need_waited hC hW (by kernel_rfl)
   have hq := hI.at (25, (fun v _ => ∃ aa, v = .slice aa m2 m2)) (by simp) hP
   dsimp only at hq
   obtain ⟨aa, hsl⟩ := hq
   have HS := Lib.hid (hI.step HL.out (Below.refl _ _) (k := 26) (by intro q hq; simp only [List.mem_cons, List.not_mem_nil, or_false] at hq; rcases hq with rfl | rfl <;> first | exact (show (21 : Nat) ≠ 26 by decide) | exact (show (25 : Nat) ≠ 26 by decide)))
   clear hI hS hC hW hD
   go_wp2_with fail
   all_goals first | exact HS.out | exact ⟨rfl, HS.out⟩ | rfl
  ·intro s D w' hD hW hC hI
   have hS := hI.below
   refine .inl ⟨s, fun _ _ _ => rfl, ?_⟩
   with_reducible refine OpTo.wanted ?_ ?_
   kernel_rfl
   have hm : m2 ≤ 32 := by have := HN.out; omega
   have HS := Lib.hid (hI.step HL.out (Below.refl _ _) (k := 27) (by intro q hq; simp only [List.mem_cons, List.not_mem_nil, or_false] at hq; rcases hq with rfl | rfl <;> first | exact (show (21 : Nat) ≠ 27 by decide) | exact (show (25 : Nat) ≠ 27 by decide)))
   clear hI hS hC hW hD
   go_wp2_with fail
   all_goals first | exact HS.out | exact ⟨rfl, HS.out⟩ | rfl
  ·intro s D w' hD hW hC hI
   have hS := hI.below
   refine .inl ⟨s, fun _ _ _ => rfl, ?_⟩
   with_reducible refine OpTo.wanted ?_ ?_
   kernel_rfl
   have q1 := FACTS.out.2.2
   have HS := Lib.hid (hI.step HL.out (Below.refl _ _) (k := 28) (by intro q hq; simp only [List.mem_cons, List.not_mem_nil, or_false] at hq; rcases hq with rfl | rfl <;> first | exact (show (21 : Nat) ≠ 28 by decide) | exact (show (25 : Nat) ≠ 28 by decide)))
   clear hI hS hC hW hD
   go_wp2_with fail
   all_goals first | exact HS.out | exact ⟨rfl, HS.out⟩ | rfl
  ·intro s D w' hD hW hC hI
   have hS := hI.below
   refine .inl ⟨s, fun _ _ _ => rfl, ?_⟩
   with_reducible refine OpTo.plain ?_ ?_
   exact rfl
   have HS := Lib.hid (hI.step HL.out (Below.refl _ _) (k := 29) (by intro q hq; simp only [List.mem_cons, List.not_mem_nil, or_false] at hq; rcases hq with rfl | rfl <;> first | exact (show (21 : Nat) ≠ 29 by decide) | exact (show (25 : Nat) ≠ 29 by decide)))
   clear hI hS hC hW hD
   go_wp2_with fail
   all_goals first | exact HS.out | exact ⟨rfl, HS.out⟩ | rfl
 intro s D w2 hall hI
 exact HQ.out w2 (s 21) (s 25) hI.below
set_option maxHeartbeats 16000000 in
set_option maxRecDepth 100000 in
theorem fair_r15f {W : World} {XO XH XD  gb gb2 b1 b2 m1 m2 : Nat} {o : Of} {nn : Int} {l l2 : List Of} {N : Int} {vb vb2 ga ga2 : Value} (KO : Hid (Blk W XO #[.int .u64 o.se, .int .u8 o.ow, .int .u8 o.sl, .int .u8 o.bu, .int .i64 o.lf, .int .i64 o.nu, .int .i64 o.de] 60)) (KH : Hid (Blk W XH #[ga, .pointer (some ⟨gb, 0, none⟩)] 32)) (KD : Hid (Blk W XD #[ga2, .pointer (some ⟨gb2, 0, none⟩)] 32)) (P1 : Hid (PB W b1 gb l N vb)) (P2 : Hid (PB W b2 gb2 l2 N vb2)) (HN : Hid (l.length ≤ 32 ∧ l2.length ≤ 32 ∧ l.length = m1 ∧ l2.length = m2)) (FACTS : Hid (decide (nn < o.lf) = false ∧ (1 ≤ nn ∧ nn ≤ 1099511627776 ∧ 1 ≤ o.lf ∧ o.lf ≤ 1099511627776) ∧ decide ((m1 : Int) < (m2 : Int) - 1) = false)) {Q : Exit → Act → World → Prop} {c0 c1 c2 c3 c4 c8 c9 c11 c12 c14 c15 c16 c17 c18 c19 c20 c21 c22 c23 c24 c25 c26 c27 c28 c29 c30 c31 c32 c33 c34 c35 c36 c37 c38 c39 c40 c41 c42 c43 c44 c45 c46 c47 c48 c49 c50 c51 c52 c53 c54 c55 c56 c57 c58 c59 c60 c61 c62 c63 c64 c65 c66 c67 c68 c69 c70 c71 c72 c73 c74 c75 c76 c77 c78 c79 c80 c81 c82 c83 c84 c85 c86 c87 c88 c89 c90 c91 c92 c93 c94 c95 c96 c97 c98 c99 c100 c101 c102 c103 c104 c105 c106 c107 c108 c109 c110 c111 c112 c113 c114 c115 c116 c117 c118 c119 c120 c121 c122 c123 c124 c125 c126 c127 c128 c129 c130 c131 c132 c133 c134 c135 c136 c137 c138 c139 c140 c141 c142 c143 c144 c145 c146 c147 c148 c149 c150 c151 c152 c153 c154 c155 c156 c157 c158 c159 c160 c161 c162 c163 c164 c165 c166 c167 c168 c169 c170 c171 c172 c173 c174 c175 c176 c177 c178 c179 c180 c181 c182 c183 c184 c185 c186 c187 c188 c189 c190 c191 c192 c193 c194 c195 c196 c197 c198 c199 c200 : Value}
  (hq : ∀ w6 v21 v25, Below W.heap.size W w6 → Q .normal ⟨#[c0, c1, c2, c3, c4, (.pointer (some ⟨XH, 0, none⟩)), (.pointer (some ⟨XD, 0, none⟩)), (.int .i64 nn), c8, c9, (.pointer (some ⟨XO, 0, none⟩)), c11, c12, (.bool false), c14, c15, c16, c17, c18, c19, c20, c21, c22, c23, c24, c25, c26, c27, c28, c29, c30, c31, c32, c33, c34, c35, c36, c37, c38, c39, c40, c41, c42, c43, c44, c45, c46, c47, c48, c49, c50, c51, c52, c53, c54, c55, c56, c57, c58, c59, c60, c61, c62, c63, c64, c65, c66, c67, c68, c69, c70, c71, c72, c73, c74, c75, c76, c77, c78, c79, c80, c81, c82, c83, c84, c85, c86, c87, c88, c89, c90, c91, c92, c93, c94, c95, c96, c97, c98, c99, c100, c101, c102, c103, c104, c105, c106, c107, c108, c109, c110, c111, c112, c113, c114, c115, c116, c117, c118, c119, c120, c121, c122, c123, c124, c125, c126, c127, c128, c129, c130, c131, c132, c133, c134, c135, c136, c137, c138, c139, c140, c141, c142, c143, c144, c145, c146, c147, c148, c149, c150, c151, c152, c153, c154, c155, c156, c157, c158, c159, c160, c161, c162, c163, c164, c165, c166, c167, c168, c169, (.bool false), (.int .i64 nn), (.pointer (some ⟨XO, 4, none⟩)), (.int .i64 o.lf), (.bool false), (.bool false), (.bool false), (.bool false), (.bool false), undef, undef, undef, undef, undef, undef, undef, (.bool false), (.bool false), (.bool false), (.pointer (some ⟨XH, 1, none⟩)), (.pointer (some ⟨gb, 0, none⟩)), v21, (.int .i64 (m1 : Nat)), (.pointer (some ⟨XD, 1, none⟩)), (.pointer (some ⟨gb2, 0, none⟩)), v25, (.int .i64 (m2 : Nat)), (.int .i64 ((m2 : Nat) - 1)), (.bool false), (.bool false), c200], []⟩ w6) :
  Code.wp Tryz.prog (((Tryz.f4.body).bind (regionNo 15)).getD .skip) Q ⟨#[c0, c1, c2, c3, c4, (.pointer (some ⟨XH, 0, none⟩)), (.pointer (some ⟨XD, 0, none⟩)), (.int .i64 nn), c8, c9, (.pointer (some ⟨XO, 0, none⟩)), c11, c12, (.bool false), c14, c15, c16, c17, c18, c19, c20, c21, c22, c23, c24, c25, c26, c27, c28, c29, c30, c31, c32, c33, c34, c35, c36, c37, c38, c39, c40, c41, c42, c43, c44, c45, c46, c47, c48, c49, c50, c51, c52, c53, c54, c55, c56, c57, c58, c59, c60, c61, c62, c63, c64, c65, c66, c67, c68, c69, c70, c71, c72, c73, c74, c75, c76, c77, c78, c79, c80, c81, c82, c83, c84, c85, c86, c87, c88, c89, c90, c91, c92, c93, c94, c95, c96, c97, c98, c99, c100, c101, c102, c103, c104, c105, c106, c107, c108, c109, c110, c111, c112, c113, c114, c115, c116, c117, c118, c119, c120, c121, c122, c123, c124, c125, c126, c127, c128, c129, c130, c131, c132, c133, c134, c135, c136, c137, c138, c139, c140, c141, c142, c143, c144, c145, c146, c147, c148, c149, c150, c151, c152, c153, c154, c155, c156, c157, c158, c159, c160, c161, c162, c163, c164, c165, c166, c167, c168, c169, c170, c171, c172, c173, c174, c175, c176, c177, c178, c179, c180, c181, c182, c183, c184, c185, c186, c187, c188, c189, c190, c191, c192, c193, c194, c195, c196, c197, c198, c199, c200], []⟩ W := by
 conv => arg 2; whnf
 have HQ := Lib.hid hq
 clear hq
 have hlasts : ∀ q ∈ ([(21, (fun v _ => ∃ aa, v = .slice aa m1 m1)), (25, (fun v _ => ∃ aa, v = .slice aa m2 m2))] : List (Nat × (Value → World → Prop))), Lasts q.2 := by
  intro q hq
  simp only [List.mem_cons, List.not_mem_nil, or_false] at hq
  rcases hq with rfl | rfl
  ·exact fun v w w' h k => h
  ·exact fun v w w' h k => h
 have HL := Lib.hid hlasts
 clear hlasts
 refine region_fresh (by kernel_rfl) (fun s : Nat → Value => [(.bool false), (.int .i64 nn), (.pointer (some ⟨XO, 4, none⟩)), (.int .i64 o.lf), (.bool false), (.bool false), (.bool false), (.bool false), (.bool false), undef, undef, undef, undef, undef, undef, undef, (.bool false), (.bool false), (.bool false), (.pointer (some ⟨XH, 1, none⟩)), (.pointer (some ⟨gb, 0, none⟩)), s 21, (.int .i64 (m1 : Nat)), (.pointer (some ⟨XD, 1, none⟩)), (.pointer (some ⟨gb2, 0, none⟩)), s 25, (.int .i64 (m2 : Nat)), (.int .i64 ((m2 : Nat) - 1)), (.bool false), (.bool false)])
  (Got W [(21, (fun v _ => ∃ aa, v = .slice aa m1 m1)), (25, (fun v _ => ∃ aa, v = .slice aa m2 m2))]) (by kernel_rfl) (fun _ => undef) (Got.start _ _ _) ?_
 intro AF hAF
 simp only [List.toList_toArray, puts, Act.put, List.getD_cons_zero, List.getD_cons_succ, List.setIfInBounds_toArray, List.set_cons_succ, List.set_cons_zero] at hAF
 have hAF2 : _ = AF := funext hAF
 subst hAF2
 clear hAF
 refine ⟨?_, ?_⟩
 ·simp only [List.toList_toArray, EachF]
  refine ⟨?_, ?_, ?_, ?_, ?_, ?_, ?_, ?_, ?_, ?_, ?_, ?_, ?_, ?_, ?_, ?_, ?_, ?_, ?_, ?_, ?_, ?_, ?_, ?_, ?_, ?_, ?_, ?_, ?_, ?_, trivial⟩
  ·intro s D w' hD hW hC hI
   have hS := hI.below
   refine .inl ⟨s, fun _ _ _ => rfl, ?_⟩
   with_reducible refine OpTo.plain ?_ ?_
   exact rfl
   have HS := Lib.hid (hI.step HL.out (Below.refl _ _) (k := 0) (by intro q hq; simp only [List.mem_cons, List.not_mem_nil, or_false] at hq; rcases hq with rfl | rfl <;> first | exact (show (21 : Nat) ≠ 0 by decide) | exact (show (25 : Nat) ≠ 0 by decide)))
   clear hI hS hC hW hD
   go_wp2_with fail
   all_goals first | exact HS.out | exact ⟨rfl, HS.out⟩ | rfl
  ·intro s D w' hD hW hC hI
   have hS := hI.below
   refine .inl ⟨s, fun _ _ _ => rfl, ?_⟩
   with_reducible refine OpTo.plain ?_ ?_
   exact rfl
   have HS := Lib.hid (hI.step HL.out (Below.refl _ _) (k := 1) (by intro q hq; simp only [List.mem_cons, List.not_mem_nil, or_false] at hq; rcases hq with rfl | rfl <;> first | exact (show (21 : Nat) ≠ 1 by decide) | exact (show (25 : Nat) ≠ 1 by decide)))
   clear hI hS hC hW hD
   go_wp2_with fail
   all_goals first | exact HS.out | exact ⟨rfl, HS.out⟩ | rfl
  ·intro s D w' hD hW hC hI
   have hS := hI.below
   refine .inl ⟨s, fun _ _ _ => rfl, ?_⟩
   with_reducible refine OpTo.plain ?_ ?_
   exact rfl
   have hl0 := Nat.lt_of_lt_of_le KO.out.lt hS.size
   have HS := Lib.hid (hI.step HL.out (Below.refl _ _) (k := 2) (by intro q hq; simp only [List.mem_cons, List.not_mem_nil, or_false] at hq; rcases hq with rfl | rfl <;> first | exact (show (21 : Nat) ≠ 2 by decide) | exact (show (25 : Nat) ≠ 2 by decide)))
   clear hI hS hC hW hD
   go_wp2_with fail
   all_goals first | exact HS.out | exact ⟨rfl, HS.out⟩ | rfl
  ·intro s D w' hD hW hC hI
   have hS := hI.below
   refine .inl ⟨s, fun _ _ _ => rfl, ?_⟩
   with_reducible refine OpTo.plain ?_ ?_
   exact rfl
   have hl0 := Nat.lt_of_lt_of_le KO.out.lt hS.size
   have d0_0 := (KO.out.below hS KO.out.lt).cell 0
   have d0_1 := (KO.out.below hS KO.out.lt).cell 1
   have d0_2 := (KO.out.below hS KO.out.lt).cell 2
   have d0_3 := (KO.out.below hS KO.out.lt).cell 3
   have d0_4 := (KO.out.below hS KO.out.lt).cell 4
   have d0_5 := (KO.out.below hS KO.out.lt).cell 5
   have d0_6 := (KO.out.below hS KO.out.lt).cell 6
   simp at d0_0 d0_1 d0_2 d0_3 d0_4 d0_5 d0_6
   have HS := Lib.hid (hI.step HL.out (Below.refl _ _) (k := 3) (by intro q hq; simp only [List.mem_cons, List.not_mem_nil, or_false] at hq; rcases hq with rfl | rfl <;> first | exact (show (21 : Nat) ≠ 3 by decide) | exact (show (25 : Nat) ≠ 3 by decide)))
   clear hI hS hC hW hD
   go_wp2_with fail
   all_goals first | exact HS.out | exact ⟨rfl, HS.out⟩ | rfl
  ·intro s D w' hD hW hC hI
   have hS := hI.below
   refine .inl ⟨s, fun _ _ _ => rfl, ?_⟩
   with_reducible refine OpTo.plain ?_ ?_
   exact rfl
   have q1 := FACTS.out.1
   have HS := Lib.hid (hI.step HL.out (Below.refl _ _) (k := 4) (by intro q hq; simp only [List.mem_cons, List.not_mem_nil, or_false] at hq; rcases hq with rfl | rfl <;> first | exact (show (21 : Nat) ≠ 4 by decide) | exact (show (25 : Nat) ≠ 4 by decide)))
   clear hI hS hC hW hD
   go_wp2_with fail
   all_goals first | exact HS.out | exact ⟨rfl, HS.out⟩ | rfl
  ·intro s D w' hD hW hC hI
   have hS := hI.below
   refine .inl ⟨s, fun _ _ _ => rfl, ?_⟩
   with_reducible refine OpTo.plain ?_ ?_
   exact rfl
   have HS := Lib.hid (hI.step HL.out (Below.refl _ _) (k := 5) (by intro q hq; simp only [List.mem_cons, List.not_mem_nil, or_false] at hq; rcases hq with rfl | rfl <;> first | exact (show (21 : Nat) ≠ 5 by decide) | exact (show (25 : Nat) ≠ 5 by decide)))
   clear hI hS hC hW hD
   go_wp2_with fail
   all_goals first | exact HS.out | exact ⟨rfl, HS.out⟩ | rfl
  ·intro s D w' hD hW hC hI
   have hS := hI.below
   refine .inl ⟨s, fun _ _ _ => rfl, ?_⟩
   with_reducible refine OpTo.plain ?_ ?_
   exact rfl
   have HS := Lib.hid (hI.step HL.out (Below.refl _ _) (k := 6) (by intro q hq; simp only [List.mem_cons, List.not_mem_nil, or_false] at hq; rcases hq with rfl | rfl <;> first | exact (show (21 : Nat) ≠ 6 by decide) | exact (show (25 : Nat) ≠ 6 by decide)))
   clear hI hS hC hW hD
   go_wp2_with fail
   all_goals first | exact HS.out | exact ⟨rfl, HS.out⟩ | rfl
  ·intro s D w' hD hW hC hI
   have hS := hI.below
   refine .inl ⟨s, fun _ _ _ => rfl, ?_⟩
   with_reducible refine OpTo.wanted ?_ ?_
   kernel_rfl
   have HS := Lib.hid (hI.step HL.out (Below.refl _ _) (k := 7) (by intro q hq; simp only [List.mem_cons, List.not_mem_nil, or_false] at hq; rcases hq with rfl | rfl <;> first | exact (show (21 : Nat) ≠ 7 by decide) | exact (show (25 : Nat) ≠ 7 by decide)))
   clear hI hS hC hW hD
   go_wp2_with fail
   all_goals first | exact HS.out | exact ⟨rfl, HS.out⟩ | rfl
  ·intro s D w' hD hW hC hI
   have hS := hI.below
   refine .inl ⟨s, fun _ _ _ => rfl, ?_⟩
   with_reducible refine OpTo.wanted ?_ ?_
   kernel_rfl
   have HS := Lib.hid (hI.step HL.out (Below.refl _ _) (k := 8) (by intro q hq; simp only [List.mem_cons, List.not_mem_nil, or_false] at hq; rcases hq with rfl | rfl <;> first | exact (show (21 : Nat) ≠ 8 by decide) | exact (show (25 : Nat) ≠ 8 by decide)))
   clear hI hS hC hW hD
   go_wp2_with fail
   all_goals first | exact HS.out | exact ⟨rfl, HS.out⟩ | rfl
  ·intro s D w' hD hW hC hI
   refine .inl ⟨s, fun _ _ _ => rfl, ?_⟩
   exact OpTo.passed (by kernel_rfl) rfl (hI.step HL.out (Below.refl _ _) (k := 9) (by intro q hq; simp only [List.mem_cons, List.not_mem_nil, or_false] at hq; rcases hq with rfl | rfl <;> first | exact (show (21 : Nat) ≠ 9 by decide) | exact (show (25 : Nat) ≠ 9 by decide)))
  ·intro s D w' hD hW hC hI
   refine .inl ⟨s, fun _ _ _ => rfl, ?_⟩
   exact OpTo.passed (by kernel_rfl) rfl (hI.step HL.out (Below.refl _ _) (k := 10) (by intro q hq; simp only [List.mem_cons, List.not_mem_nil, or_false] at hq; rcases hq with rfl | rfl <;> first | exact (show (21 : Nat) ≠ 10 by decide) | exact (show (25 : Nat) ≠ 10 by decide)))
  ·intro s D w' hD hW hC hI
   refine .inl ⟨s, fun _ _ _ => rfl, ?_⟩
   exact OpTo.passed (by kernel_rfl) rfl (hI.step HL.out (Below.refl _ _) (k := 11) (by intro q hq; simp only [List.mem_cons, List.not_mem_nil, or_false] at hq; rcases hq with rfl | rfl <;> first | exact (show (21 : Nat) ≠ 11 by decide) | exact (show (25 : Nat) ≠ 11 by decide)))
  ·intro s D w' hD hW hC hI
   refine .inl ⟨s, fun _ _ _ => rfl, ?_⟩
   exact OpTo.passed (by kernel_rfl) rfl (hI.step HL.out (Below.refl _ _) (k := 12) (by intro q hq; simp only [List.mem_cons, List.not_mem_nil, or_false] at hq; rcases hq with rfl | rfl <;> first | exact (show (21 : Nat) ≠ 12 by decide) | exact (show (25 : Nat) ≠ 12 by decide)))
  ·intro s D w' hD hW hC hI
   refine .inl ⟨s, fun _ _ _ => rfl, ?_⟩
   exact OpTo.passed (by kernel_rfl) rfl (hI.step HL.out (Below.refl _ _) (k := 13) (by intro q hq; simp only [List.mem_cons, List.not_mem_nil, or_false] at hq; rcases hq with rfl | rfl <;> first | exact (show (21 : Nat) ≠ 13 by decide) | exact (show (25 : Nat) ≠ 13 by decide)))
  ·intro s D w' hD hW hC hI
   refine .inl ⟨s, fun _ _ _ => rfl, ?_⟩
   exact OpTo.passed (by kernel_rfl) rfl (hI.step HL.out (Below.refl _ _) (k := 14) (by intro q hq; simp only [List.mem_cons, List.not_mem_nil, or_false] at hq; rcases hq with rfl | rfl <;> first | exact (show (21 : Nat) ≠ 14 by decide) | exact (show (25 : Nat) ≠ 14 by decide)))
  ·intro s D w' hD hW hC hI
   refine .inl ⟨s, fun _ _ _ => rfl, ?_⟩
   exact OpTo.passed (by kernel_rfl) rfl (hI.step HL.out (Below.refl _ _) (k := 15) (by intro q hq; simp only [List.mem_cons, List.not_mem_nil, or_false] at hq; rcases hq with rfl | rfl <;> first | exact (show (21 : Nat) ≠ 15 by decide) | exact (show (25 : Nat) ≠ 15 by decide)))
  ·intro s D w' hD hW hC hI
   have hS := hI.below
   refine .inl ⟨s, fun _ _ _ => rfl, ?_⟩
   with_reducible refine OpTo.wanted ?_ ?_
   kernel_rfl
   have HS := Lib.hid (hI.step HL.out (Below.refl _ _) (k := 16) (by intro q hq; simp only [List.mem_cons, List.not_mem_nil, or_false] at hq; rcases hq with rfl | rfl <;> first | exact (show (21 : Nat) ≠ 16 by decide) | exact (show (25 : Nat) ≠ 16 by decide)))
   clear hI hS hC hW hD
   go_wp2_with fail
   all_goals first | exact HS.out | exact ⟨rfl, HS.out⟩ | rfl
  ·intro s D w' hD hW hC hI
   have hS := hI.below
   refine .inl ⟨s, fun _ _ _ => rfl, ?_⟩
   with_reducible refine OpTo.plain ?_ ?_
   exact rfl
   have HS := Lib.hid (hI.step HL.out (Below.refl _ _) (k := 17) (by intro q hq; simp only [List.mem_cons, List.not_mem_nil, or_false] at hq; rcases hq with rfl | rfl <;> first | exact (show (21 : Nat) ≠ 17 by decide) | exact (show (25 : Nat) ≠ 17 by decide)))
   clear hI hS hC hW hD
   go_wp2_with fail
   all_goals first | exact HS.out | exact ⟨rfl, HS.out⟩ | rfl
  ·intro s D w' hD hW hC hI
   have hS := hI.below
   refine .inl ⟨s, fun _ _ _ => rfl, ?_⟩
   with_reducible refine OpTo.plain ?_ ?_
   exact rfl
   have HS := Lib.hid (hI.step HL.out (Below.refl _ _) (k := 18) (by intro q hq; simp only [List.mem_cons, List.not_mem_nil, or_false] at hq; rcases hq with rfl | rfl <;> first | exact (show (21 : Nat) ≠ 18 by decide) | exact (show (25 : Nat) ≠ 18 by decide)))
   clear hI hS hC hW hD
   go_wp2_with fail
   all_goals first | exact HS.out | exact ⟨rfl, HS.out⟩ | rfl
  ·intro s D w' hD hW hC hI
   have hS := hI.below
   refine .inl ⟨s, fun _ _ _ => rfl, ?_⟩
   with_reducible refine OpTo.wanted ?_ ?_
   kernel_rfl
   have hl0 := Nat.lt_of_lt_of_le KH.out.lt hS.size
   have HS := Lib.hid (hI.step HL.out (Below.refl _ _) (k := 19) (by intro q hq; simp only [List.mem_cons, List.not_mem_nil, or_false] at hq; rcases hq with rfl | rfl <;> first | exact (show (21 : Nat) ≠ 19 by decide) | exact (show (25 : Nat) ≠ 19 by decide)))
   clear hI hS hC hW hD
   go_wp2_with fail
   all_goals first | exact HS.out | exact ⟨rfl, HS.out⟩ | rfl
  ·intro s D w' hD hW hC hI
   have hS := hI.below
   refine .inl ⟨s, fun _ _ _ => rfl, ?_⟩
   with_reducible refine OpTo.wanted ?_ ?_
   kernel_rfl
   have hl0 := Nat.lt_of_lt_of_le KH.out.lt hS.size
   have d0_0 := (KH.out.below hS KH.out.lt).cell 0
   have d0_1 := (KH.out.below hS KH.out.lt).cell 1
   simp at d0_0 d0_1
   have HS := Lib.hid (hI.step HL.out (Below.refl _ _) (k := 20) (by intro q hq; simp only [List.mem_cons, List.not_mem_nil, or_false] at hq; rcases hq with rfl | rfl <;> first | exact (show (21 : Nat) ≠ 20 by decide) | exact (show (25 : Nat) ≠ 20 by decide)))
   clear hI hS hC hW hD
   go_wp2_with fail
   all_goals first | exact HS.out | exact ⟨rfl, HS.out⟩ | rfl
  ·intro s D w' hD hW hC hI
   have hS := hI.below
   have HI := Lib.hid hI
   have HCl := Lib.hid hC
   have HD := Lib.hid hD
   have HC := Lib.hid (pall_any (P1.out.below hS) (by have := HN.out.1; omega))
   refine .inr ?_
   with_reducible refine OpGets.wanted ?_ ?_
   kernel_rfl
   clear hI hS hC hW hD
   go_wp2_with fail
   refine HC.out.mono ?_
   rintro e w'' ⟨v, rfl, hv, hb2⟩
   refine ⟨v, rfl, updV s 21 v, vals_put _ (fun s : Nat → Value => [(.bool false), (.int .i64 nn), (.pointer (some ⟨XO, 4, none⟩)), (.int .i64 o.lf), (.bool false), (.bool false), (.bool false), (.bool false), (.bool false), undef, undef, undef, undef, undef, undef, undef, (.bool false), (.bool false), (.bool false), (.pointer (some ⟨XH, 1, none⟩)), (.pointer (some ⟨gb, 0, none⟩)), s 21, (.int .i64 (m1 : Nat)), (.pointer (some ⟨XD, 1, none⟩)), (.pointer (some ⟨gb2, 0, none⟩)), s 25, (.int .i64 (m2 : Nat)), (.int .i64 ((m2 : Nat) - 1)), (.bool false), (.bool false)]) s 21 v HCl.out HD.out ?_, rfl, HI.out.put HL.out hb2 ?_⟩
   ·intro j hj
    match j, hj with
    | 0, _ => exact .inr rfl
    | 1, _ => exact .inr rfl
    | 2, _ => exact .inr rfl
    | 3, _ => exact .inr rfl
    | 4, _ => exact .inr rfl
    | 5, _ => exact .inr rfl
    | 6, _ => exact .inr rfl
    | 7, _ => exact .inr rfl
    | 8, _ => exact .inr rfl
    | 9, _ => exact .inr rfl
    | 10, _ => exact .inr rfl
    | 11, _ => exact .inr rfl
    | 12, _ => exact .inr rfl
    | 13, _ => exact .inr rfl
    | 14, _ => exact .inr rfl
    | 15, _ => exact .inr rfl
    | 16, _ => exact .inr rfl
    | 17, _ => exact .inr rfl
    | 18, _ => exact .inr rfl
    | 19, _ => exact .inr rfl
    | 20, _ => exact .inr rfl
    | 21, _ => exact .inl (.inl rfl)
    | 22, _ => exact .inr rfl
    | 23, _ => exact .inr rfl
    | 24, _ => exact .inr rfl
    | 25, _ => exact .inr rfl
    | 26, _ => exact .inr rfl
    | 27, _ => exact .inr rfl
    | 28, _ => exact .inr rfl
    | 29, _ => exact .inr rfl
    | j + 30, _ => exact .inr rfl
   ·intro q hq he
    simp only [List.mem_cons, List.not_mem_nil, or_false] at hq
    rcases hq with rfl | rfl <;> first | exact slice_shape10 hv HN.out.2.2.1 | exact absurd (show (25 : Nat) = 21 from he) (by decide)
  ·intro s D w' hD hW hC hI
   have hS := hI.below
   refine .inl ⟨s, fun _ _ _ => rfl, ?_⟩
   with_reducible refine OpTo.wanted ?_ ?_
   kernel_rfl
   have hP : D 21 = true := need_waited hC hW (by kernel_rfl)
   have hq := hI.at (21, (fun v _ => ∃ aa, v = .slice aa m1 m1)) (by simp) hP
   dsimp only at hq
   obtain ⟨aa, hsl⟩ := hq
   have HS := Lib.hid (hI.step HL.out (Below.refl _ _) (k := 22) (by intro q hq; simp only [List.mem_cons, List.not_mem_nil, or_false] at hq; rcases hq with rfl | rfl <;> first | exact (show (21 : Nat) ≠ 22 by decide) | exact (show (25 : Nat) ≠ 22 by decide)))
   clear hI hS hC hW hD
   go_wp2_with fail
   all_goals first | exact HS.out | exact ⟨rfl, HS.out⟩ | rfl
  ·intro s D w' hD hW hC hI
   have hS := hI.below
   refine .inl ⟨s, fun _ _ _ => rfl, ?_⟩
   with_reducible refine OpTo.wanted ?_ ?_
   kernel_rfl
   have hl0 := Nat.lt_of_lt_of_le KD.out.lt hS.size
   have HS := Lib.hid (hI.step HL.out (Below.refl _ _) (k := 23) (by intro q hq; simp only [List.mem_cons, List.not_mem_nil, or_false] at hq; rcases hq with rfl | rfl <;> first | exact (show (21 : Nat) ≠ 23 by decide) | exact (show (25 : Nat) ≠ 23 by decide)))
   clear hI hS hC hW hD
   go_wp2_with fail
   all_goals first | exact HS.out | exact ⟨rfl, HS.out⟩ | rfl
  ·intro s D w' hD hW hC hI
   have hS := hI.below
   refine .inl ⟨s, fun _ _ _ => rfl, ?_⟩
   with_reducible refine OpTo.wanted ?_ ?_
   kernel_rfl
   have hl0 := Nat.lt_of_lt_of_le KD.out.lt hS.size
   have d0_0 := (KD.out.below hS KD.out.lt).cell 0
   have d0_1 := (KD.out.below hS KD.out.lt).cell 1
   simp at d0_0 d0_1
   have HS := Lib.hid (hI.step HL.out (Below.refl _ _) (k := 24) (by intro q hq; simp only [List.mem_cons, List.not_mem_nil, or_false] at hq; rcases hq with rfl | rfl <;> first | exact (show (21 : Nat) ≠ 24 by decide) | exact (show (25 : Nat) ≠ 24 by decide)))
   clear hI hS hC hW hD
   go_wp2_with fail
   all_goals first | exact HS.out | exact ⟨rfl, HS.out⟩ | rfl
  ·intro s D w' hD hW hC hI
   have hS := hI.below
   have HI := Lib.hid hI
   have HCl := Lib.hid hC
   have HD := Lib.hid hD
   have HC := Lib.hid (pall_any (P2.out.below hS) (by have := HN.out.2.1; omega))
   refine .inr ?_
   with_reducible refine OpGets.wanted ?_ ?_
   kernel_rfl
   clear hI hS hC hW hD
   go_wp2_with fail
   refine HC.out.mono ?_
   rintro e w'' ⟨v, rfl, hv, hb2⟩
   refine ⟨v, rfl, updV s 25 v, vals_put _ (fun s : Nat → Value => [(.bool false), (.int .i64 nn), (.pointer (some ⟨XO, 4, none⟩)), (.int .i64 o.lf), (.bool false), (.bool false), (.bool false), (.bool false), (.bool false), undef, undef, undef, undef, undef, undef, undef, (.bool false), (.bool false), (.bool false), (.pointer (some ⟨XH, 1, none⟩)), (.pointer (some ⟨gb, 0, none⟩)), s 21, (.int .i64 (m1 : Nat)), (.pointer (some ⟨XD, 1, none⟩)), (.pointer (some ⟨gb2, 0, none⟩)), s 25, (.int .i64 (m2 : Nat)), (.int .i64 ((m2 : Nat) - 1)), (.bool false), (.bool false)]) s 25 v HCl.out HD.out ?_, rfl, HI.out.put HL.out hb2 ?_⟩
   ·intro j hj
    match j, hj with
    | 0, _ => exact .inr rfl
    | 1, _ => exact .inr rfl
    | 2, _ => exact .inr rfl
    | 3, _ => exact .inr rfl
    | 4, _ => exact .inr rfl
    | 5, _ => exact .inr rfl
    | 6, _ => exact .inr rfl
    | 7, _ => exact .inr rfl
    | 8, _ => exact .inr rfl
    | 9, _ => exact .inr rfl
    | 10, _ => exact .inr rfl
    | 11, _ => exact .inr rfl
    | 12, _ => exact .inr rfl
    | 13, _ => exact .inr rfl
    | 14, _ => exact .inr rfl
    | 15, _ => exact .inr rfl
    | 16, _ => exact .inr rfl
    | 17, _ => exact .inr rfl
    | 18, _ => exact .inr rfl
    | 19, _ => exact .inr rfl
    | 20, _ => exact .inr rfl
    | 21, _ => exact .inr rfl
    | 22, _ => exact .inr rfl
    | 23, _ => exact .inr rfl
    | 24, _ => exact .inr rfl
    | 25, _ => exact .inl (.inl rfl)
    | 26, _ => exact .inr rfl
    | 27, _ => exact .inr rfl
    | 28, _ => exact .inr rfl
    | 29, _ => exact .inr rfl
    | j + 30, _ => exact .inr rfl
   ·intro q hq he
    simp only [List.mem_cons, List.not_mem_nil, or_false] at hq
    rcases hq with rfl | rfl <;> first | exact slice_shape10 hv HN.out.2.2.2 | exact absurd (show (21 : Nat) = 25 from he) (by decide)
  ·intro s D w' hD hW hC hI
   have hS := hI.below
   refine .inl ⟨s, fun _ _ _ => rfl, ?_⟩
   with_reducible refine OpTo.wanted ?_ ?_
   kernel_rfl
   have hP : D 25 = true := need_waited hC hW (by kernel_rfl)
   have hq := hI.at (25, (fun v _ => ∃ aa, v = .slice aa m2 m2)) (by simp) hP
   dsimp only at hq
   obtain ⟨aa, hsl⟩ := hq
   have HS := Lib.hid (hI.step HL.out (Below.refl _ _) (k := 26) (by intro q hq; simp only [List.mem_cons, List.not_mem_nil, or_false] at hq; rcases hq with rfl | rfl <;> first | exact (show (21 : Nat) ≠ 26 by decide) | exact (show (25 : Nat) ≠ 26 by decide)))
   clear hI hS hC hW hD
   go_wp2_with fail
   all_goals first | exact HS.out | exact ⟨rfl, HS.out⟩ | rfl
  ·intro s D w' hD hW hC hI
   have hS := hI.below
   refine .inl ⟨s, fun _ _ _ => rfl, ?_⟩
   with_reducible refine OpTo.wanted ?_ ?_
   kernel_rfl
   have hm : m2 ≤ 32 := by have := HN.out; omega
   have HS := Lib.hid (hI.step HL.out (Below.refl _ _) (k := 27) (by intro q hq; simp only [List.mem_cons, List.not_mem_nil, or_false] at hq; rcases hq with rfl | rfl <;> first | exact (show (21 : Nat) ≠ 27 by decide) | exact (show (25 : Nat) ≠ 27 by decide)))
   clear hI hS hC hW hD
   go_wp2_with fail
   all_goals first | exact HS.out | exact ⟨rfl, HS.out⟩ | rfl
  ·intro s D w' hD hW hC hI
   have hS := hI.below
   refine .inl ⟨s, fun _ _ _ => rfl, ?_⟩
   with_reducible refine OpTo.wanted ?_ ?_
   kernel_rfl
   have q1 := FACTS.out.2.2
   have HS := Lib.hid (hI.step HL.out (Below.refl _ _) (k := 28) (by intro q hq; simp only [List.mem_cons, List.not_mem_nil, or_false] at hq; rcases hq with rfl | rfl <;> first | exact (show (21 : Nat) ≠ 28 by decide) | exact (show (25 : Nat) ≠ 28 by decide)))
   clear hI hS hC hW hD
   go_wp2_with fail
   all_goals first | exact HS.out | exact ⟨rfl, HS.out⟩ | rfl
  ·intro s D w' hD hW hC hI
   have hS := hI.below
   refine .inl ⟨s, fun _ _ _ => rfl, ?_⟩
   with_reducible refine OpTo.plain ?_ ?_
   exact rfl
   have HS := Lib.hid (hI.step HL.out (Below.refl _ _) (k := 29) (by intro q hq; simp only [List.mem_cons, List.not_mem_nil, or_false] at hq; rcases hq with rfl | rfl <;> first | exact (show (21 : Nat) ≠ 29 by decide) | exact (show (25 : Nat) ≠ 29 by decide)))
   clear hI hS hC hW hD
   go_wp2_with fail
   all_goals first | exact HS.out | exact ⟨rfl, HS.out⟩ | rfl
 intro s D w2 hall hI
 exact HQ.out w2 (s 21) (s 25) hI.below
end Go.Proofs.YtbieomgpfhloeaaGreat
