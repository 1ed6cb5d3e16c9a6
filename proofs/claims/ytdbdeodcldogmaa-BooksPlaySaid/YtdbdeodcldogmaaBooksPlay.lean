/-
  BooksPlay: the walk, for every acts and every next number (written by gen_bplay.py).
-/
import Derived.Test.YtdbdeodcldogmaaPlay04
import Derived.Deep.CutBlock
import Derived.Deep.DeepCutAuto
namespace Go.Proofs.Ytdbdeodcldogmaa
open Go.RowKit
set_option linter.unusedSimpArgs false
set_option linter.unusedVariables false

def StartAt (w : World) (s5 s6 : Value) (wx : World) : Prop :=
  ∃ (g r : Nat) (N : Int) (vl vm : Value), s5 = .pointer (some ⟨g, 0, none⟩) ∧ s6 = .pointer (some ⟨r, 0, none⟩) ∧ PB wx w.heap.size g [] N vl ∧ RefB wx w.heap.size r [] N vm ∧ (1 ≤ N ∧ N ≤ 18446744073709551615) ∧ Below w.heap.size w wx
set_option maxHeartbeats 4000000 in
set_option maxRecDepth 100000 in
theorem play_r37 {w0 W : World} {g r c d X O : Nat} {x : Ab} {l L lc : List Of} {N Nc er : Int} {vl vm vc vd : Value} (HW : Hid (PlayW w0 W g r c d l N vl l N vm lc Nc vc vd)) (KX : Hid (Blk W X #[.int .u8 x.k, .int .u64 x.o.se, .int .u8 x.o.ow, .int .u8 x.o.sl, .int .u8 x.o.bu, .int .i64 x.o.lf, .int .i64 x.o.nu, .int .i64 x.o.de, .int .i64 x.n] 41)) (KO : Hid (Blk W O #[.int .u64 x.o.se, .int .u8 x.o.ow, .int .u8 x.o.sl, .int .u8 x.o.bu, .int .i64 x.o.lf, .int .i64 x.o.nu, .int .i64 x.o.de] 39)) (C1 : Hid (∀ w' vl vm lm, PlayW w0 w' g r c d l N vl lm N vm lc Nc vc vd → Calls Try.prog 20 #[.pointer (some ⟨g, 0, none⟩), .int .u64 x.o.se, .int .i64 x.n] w' fun e w'' => e = .returned (.int .i64 er) ∧ ∃ vl', PB w'' w0.heap.size g L N vl' ∧ Keep (Foot g vl) w' w'' ∧ Moved w' vl vl')) (C2 : Hid (∀ w' vl vm lp, PlayW w0 w' g r c d lp N vl l N vm lc Nc vc vd → Calls Try.prog 21 #[.pointer (some ⟨r, 0, none⟩), .int .u64 x.o.se, .int .i64 x.n] w' fun e w'' => e = .returned (.int .i64 er) ∧ ∃ vm', RefB w'' w0.heap.size r L N vm' ∧ Keep (· = r) w' w'')) {Q : Exit → Act → World → Prop} {c0 c1 c2 c3 c4 c7 c8 c9 c10 c11 c12 c13 c16 c17 c18 c19 c20 c21 c22 c23 c24 c25 c26 c27 c28 c29 c30 c31 c32 c33 c34 c35 c36 c37 c38 c39 c40 c41 c42 c43 c44 c45 c46 c47 c48 c49 c50 c51 c52 c53 c54 c55 c56 c57 c58 c59 c60 c61 c62 c63 c64 c65 c66 c67 c68 c69 c70 c71 c72 c73 c74 c75 c76 c77 c78 c79 c80 c81 c82 c83 c84 c85 c86 c87 c88 c89 c90 c91 c92 c93 c94 c95 c96 c97 c98 c99 c100 c101 c102 c103 c104 c105 c106 c107 c108 c109 c110 c111 c112 c113 c114 c115 c116 c117 c118 c119 c120 c121 c122 c123 c124 c125 c126 c127 c128 c129 c130 c131 c132 c133 c134 c135 c136 c137 c138 c139 c140 c141 c142 c143 c144 c145 c146 c147 c148 c149 c150 c151 c152 c153 c154 c155 c156 c157 c158 c159 c160 c161 c162 c163 c164 c165 c166 c167 c168 c169 c170 c171 c172 c173 c174 c175 c176 c177 c178 c179 c180 c181 c182 c183 c184 c185 c186 c187 c188 c189 c190 c191 c192 c193 c194 c195 c196 c197 c198 c199 c200 c201 c202 c203 c204 c205 c206 c207 c208 c209 c210 c211 c212 c213 c214 c215 c216 c217 c218 c219 c220 c221 c222 c223 c224 c225 c226 c227 c228 c229 c230 c231 : Value}
    (hq : ∀ w6, (BothT4 w0 g r c d O #[.int .u64 x.o.se, .int .u8 x.o.ow, .int .u8 x.o.sl, .int .u8 x.o.bu, .int .i64 x.o.lf, .int .i64 x.o.nu, .int .i64 x.o.de] L N lc Nc vc vd) w6 → Q .normal ⟨#[c0, c1, c2, c3, c4, (.pointer (some ⟨g, 0, none⟩)), (.pointer (some ⟨r, 0, none⟩)), c7, c8, c9, c10, c11, c12, c13, (.pointer (some ⟨X, 0, none⟩)), (.pointer (some ⟨O, 0, none⟩)), c16, c17, c18, c19, c20, c21, c22, c23, c24, c25, c26, c27, c28, c29, c30, c31, c32, c33, c34, c35, c36, c37, c38, c39, c40, c41, c42, c43, c44, c45, c46, c47, c48, c49, c50, c51, c52, c53, c54, c55, c56, c57, c58, c59, c60, c61, c62, c63, c64, c65, c66, c67, c68, c69, c70, c71, c72, c73, c74, c75, c76, c77, c78, c79, c80, c81, c82, c83, c84, c85, c86, c87, c88, c89, c90, c91, c92, c93, c94, c95, c96, c97, c98, c99, c100, c101, c102, c103, c104, c105, c106, c107, c108, c109, c110, c111, c112, c113, c114, c115, c116, c117, c118, c119, c120, c121, c122, c123, c124, c125, c126, c127, c128, c129, c130, c131, c132, c133, c134, c135, c136, c137, c138, c139, c140, c141, c142, c143, c144, c145, c146, c147, c148, c149, c150, c151, c152, c153, c154, (.pointer (some ⟨g, 0, none⟩)), (.pointer (some ⟨O, 0, none⟩)), (.int .u64 x.o.se), (.pointer (some ⟨X, 8, none⟩)), (.int .i64 x.n), (.int .i64 er), (.pointer (some ⟨r, 0, none⟩)), (.pointer (some ⟨O, 0, none⟩)), (.int .u64 x.o.se), (.pointer (some ⟨X, 8, none⟩)), (.int .i64 x.n), (.int .i64 er), (.bool false), c168, c169, c170, c171, c172, c173, c174, c175, c176, c177, c178, c179, c180, c181, c182, c183, c184, c185, c186, c187, c188, c189, c190, c191, c192, c193, c194, c195, c196, c197, c198, c199, c200, c201, c202, c203, c204, c205, c206, c207, c208, c209, c210, c211, c212, c213, c214, c215, c216, c217, c218, c219, c220, c221, c222, c223, c224, c225, c226, c227, c228, c229, c230, c231], []⟩ w6) :
    Code.wp Try.prog (((Try.f3.body).bind (regionNo 37)).getD .skip) Q ⟨#[c0, c1, c2, c3, c4, (.pointer (some ⟨g, 0, none⟩)), (.pointer (some ⟨r, 0, none⟩)), c7, c8, c9, c10, c11, c12, c13, (.pointer (some ⟨X, 0, none⟩)), (.pointer (some ⟨O, 0, none⟩)), c16, c17, c18, c19, c20, c21, c22, c23, c24, c25, c26, c27, c28, c29, c30, c31, c32, c33, c34, c35, c36, c37, c38, c39, c40, c41, c42, c43, c44, c45, c46, c47, c48, c49, c50, c51, c52, c53, c54, c55, c56, c57, c58, c59, c60, c61, c62, c63, c64, c65, c66, c67, c68, c69, c70, c71, c72, c73, c74, c75, c76, c77, c78, c79, c80, c81, c82, c83, c84, c85, c86, c87, c88, c89, c90, c91, c92, c93, c94, c95, c96, c97, c98, c99, c100, c101, c102, c103, c104, c105, c106, c107, c108, c109, c110, c111, c112, c113, c114, c115, c116, c117, c118, c119, c120, c121, c122, c123, c124, c125, c126, c127, c128, c129, c130, c131, c132, c133, c134, c135, c136, c137, c138, c139, c140, c141, c142, c143, c144, c145, c146, c147, c148, c149, c150, c151, c152, c153, c154, c155, c156, c157, c158, c159, c160, c161, c162, c163, c164, c165, c166, c167, c168, c169, c170, c171, c172, c173, c174, c175, c176, c177, c178, c179, c180, c181, c182, c183, c184, c185, c186, c187, c188, c189, c190, c191, c192, c193, c194, c195, c196, c197, c198, c199, c200, c201, c202, c203, c204, c205, c206, c207, c208, c209, c210, c211, c212, c213, c214, c215, c216, c217, c218, c219, c220, c221, c222, c223, c224, c225, c226, c227, c228, c229, c230, c231], []⟩ W := by
  conv => arg 2; whnf
  have HQ := Lib.hid hq
  clear hq
  refine region_inv (by kernel_rfl) [(.pointer (some ⟨g, 0, none⟩)), (.pointer (some ⟨O, 0, none⟩)), (.int .u64 x.o.se), (.pointer (some ⟨X, 8, none⟩)), (.int .i64 x.n), (.int .i64 er), (.pointer (some ⟨r, 0, none⟩)), (.pointer (some ⟨O, 0, none⟩)), (.int .u64 x.o.se), (.pointer (some ⟨X, 8, none⟩)), (.int .i64 x.n), (.int .i64 er), (.bool false)]
    (Both4 w0 g r c d X O #[.int .u8 x.k, .int .u64 x.o.se, .int .u8 x.o.ow, .int .u8 x.o.sl, .int .u8 x.o.bu, .int .i64 x.o.lf, .int .i64 x.o.nu, .int .i64 x.o.de, .int .i64 x.n] #[.int .u64 x.o.se, .int .u8 x.o.ow, .int .u8 x.o.sl, .int .u8 x.o.bu, .int .i64 x.o.lf, .int .i64 x.o.nu, .int .i64 x.o.de] l L N lc Nc vc vd) (by kernel_rfl) (Both4.start HW.out KX.out KO.out) ?_
  intro af haf
  simp only [List.toList_toArray, List.append_eq, List.cons_append, List.nil_append, puts, Act.put, List.getD_cons_zero, List.getD_cons_succ, List.setIfInBounds_toArray, List.set_cons_succ, List.set_cons_zero] at haf
  subst haf
  refine ⟨?_, ?_⟩
  · simp only [List.toList_toArray, List.append_eq, List.cons_append, List.nil_append, EachIn]
    refine ⟨?_, ?_, ?_, ?_, ?_, ?_, ?_, ?_, ?_, ?_, ?_, ?_, ?_, trivial⟩
    · intro D w' hD hW hC hI
      refine OpTo.plain ?_ ?_
      exact rfl
      have HS := Lib.hid (hI.step (k := 0) (by decide) (by decide))
      clear hI hC hW hD
      go_wp2_with fail
      all_goals first | exact HS.out | exact ⟨rfl, HS.out⟩ | rfl
    · intro D w' hD hW hC hI
      refine OpTo.plain ?_ ?_
      exact rfl
      have HS := Lib.hid (hI.step (k := 1) (by decide) (by decide))
      clear hI hC hW hD
      go_wp2_with fail
      all_goals first | exact HS.out | exact ⟨rfl, HS.out⟩ | rfl
    · intro D w' hD hW hC hI
      refine OpTo.plain ?_ ?_
      exact rfl
      have hl := hI.o.lt
      have d0 := hI.o.cell 0
      simp at d0
      have HS := Lib.hid (hI.step (k := 2) (by decide) (by decide))
      clear hI hC hW hD
      go_wp2_with fail
      all_goals first | exact HS.out | exact ⟨rfl, HS.out⟩ | rfl
    · intro D w' hD hW hC hI
      refine OpTo.plain ?_ ?_
      exact rfl
      have HS := Lib.hid (hI.step (k := 3) (by decide) (by decide))
      clear hI hC hW hD
      go_wp2_with fail
      all_goals first | exact HS.out | exact ⟨rfl, HS.out⟩ | rfl
    · intro D w' hD hW hC hI
      refine OpTo.plain ?_ ?_
      exact rfl
      have hl := hI.x.lt
      have d8 := hI.x.cell 8
      simp at d8
      have HS := Lib.hid (hI.step (k := 4) (by decide) (by decide))
      clear hI hC hW hD
      go_wp2_with fail
      all_goals first | exact HS.out | exact ⟨rfl, HS.out⟩ | rfl
    · intro D w' hD hW hC hI
      refine OpTo.plain ?_ ?_
      exact rfl
      obtain ⟨vl1, vm1, hp1⟩ := hI.play
      rw [hD] at hp1
      simp only [cond_false] at hp1
      have HP := Lib.hid hp1
      have HC := Lib.hid (C1.out w' vl1 vm1 _ hp1)
      have HI := Lib.hid hI
      clear hI hC hW hD hp1
      go_wp2_with fail
      refine HC.out.mono ?_
      rintro e w'' ⟨rfl, vl2, h1, h2, h3⟩
      exact ⟨rfl, HI.out.one HP.out rfl h1 h2 h3⟩
    · intro D w' hD hW hC hI
      refine OpTo.plain ?_ ?_
      exact rfl
      have HS := Lib.hid (hI.step (k := 6) (by decide) (by decide))
      clear hI hC hW hD
      go_wp2_with fail
      all_goals first | exact HS.out | exact ⟨rfl, HS.out⟩ | rfl
    · intro D w' hD hW hC hI
      refine OpTo.plain ?_ ?_
      exact rfl
      have HS := Lib.hid (hI.step (k := 7) (by decide) (by decide))
      clear hI hC hW hD
      go_wp2_with fail
      all_goals first | exact HS.out | exact ⟨rfl, HS.out⟩ | rfl
    · intro D w' hD hW hC hI
      refine OpTo.plain ?_ ?_
      exact rfl
      have hl := hI.o.lt
      have d0 := hI.o.cell 0
      simp at d0
      have HS := Lib.hid (hI.step (k := 8) (by decide) (by decide))
      clear hI hC hW hD
      go_wp2_with fail
      all_goals first | exact HS.out | exact ⟨rfl, HS.out⟩ | rfl
    · intro D w' hD hW hC hI
      refine OpTo.plain ?_ ?_
      exact rfl
      have HS := Lib.hid (hI.step (k := 9) (by decide) (by decide))
      clear hI hC hW hD
      go_wp2_with fail
      all_goals first | exact HS.out | exact ⟨rfl, HS.out⟩ | rfl
    · intro D w' hD hW hC hI
      refine OpTo.plain ?_ ?_
      exact rfl
      have hl := hI.x.lt
      have d8 := hI.x.cell 8
      simp at d8
      have HS := Lib.hid (hI.step (k := 10) (by decide) (by decide))
      clear hI hC hW hD
      go_wp2_with fail
      all_goals first | exact HS.out | exact ⟨rfl, HS.out⟩ | rfl
    · intro D w' hD hW hC hI
      refine OpTo.plain ?_ ?_
      exact rfl
      obtain ⟨vl1, vm1, hp1⟩ := hI.play
      rw [hD] at hp1
      simp only [cond_false] at hp1
      have HP := Lib.hid hp1
      have HC := Lib.hid (C2.out w' vl1 vm1 _ hp1)
      have HI := Lib.hid hI
      clear hI hC hW hD hp1
      go_wp2_with fail
      refine HC.out.mono ?_
      rintro e w'' ⟨rfl, vm2, h1, h2⟩
      exact ⟨rfl, HI.out.two HP.out rfl h1 h2⟩
    · intro D w' hD hW hC hI
      refine OpTo.plain ?_ ?_
      exact rfl
      have HS := Lib.hid (hI.step (k := 12) (by decide) (by decide))
      clear hI hC hW hD
      go_wp2_with fail
      all_goals first | exact HS.out | exact ⟨rfl, HS.out⟩ | rfl
  intro D w6 hall hI
  exact HQ.out w6 (hI.done (hall 5 (by decide)) (hall 11 (by decide)))
set_option maxHeartbeats 16000000 in
set_option maxRecDepth 100000 in
theorem play_b2 {w W : World} {g r c d X O : Nat} {x : Ab} {l lc : List Of} {N Nc kk : Int} {vl vm vc vd : Value} (W5 : Hid (PlayW w W g r c d l N vl l N vm lc Nc vc vd)) (I3 : Hid (BInv l N)) (J3 : Hid (BInv lc Nc)) (KX5 : Hid (Blk W X #[.int .u8 x.k, .int .u64 x.o.se, .int .u8 x.o.ow, .int .u8 x.o.sl, .int .u8 x.o.bu, .int .i64 x.o.lf, .int .i64 x.o.nu, .int .i64 x.o.de, .int .i64 x.n] 41)) (KO5 : Hid (Blk W O #[.int .u64 x.o.se, .int .u8 x.o.ow, .int .u8 x.o.sl, .int .u8 x.o.bu, .int .i64 x.o.lf, .int .i64 x.o.nu, .int .i64 x.o.de] 39)) (HX : Hid x.Ok) (hs : kk = 0 ∨ kk = 1 ∨ kk = 2 ∨ kk = 3 ∨ kk = 4 ∨ kk = 5) {Q : Exit → Act → World → Prop} {c0 c1 c2 c3 c4 c7 c8 c9 c10 c13 c16 c17 c18 c19 c20 c21 c22 c23 c24 c25 c26 c27 c28 c29 c30 c31 c32 c33 c34 c35 c36 c37 c38 c39 c40 c41 c42 c43 c44 c45 c46 c47 c48 c49 c50 c51 c52 c53 c54 c55 c56 c57 c58 c59 c60 c61 c62 c63 c64 c65 c66 c67 c68 c69 c70 c71 c72 c73 c75 c76 c77 c78 c79 c80 c81 c82 c83 c84 c85 c86 c87 c88 c89 c90 c91 c92 c93 c94 c95 c96 c97 c98 c99 c100 c101 c102 c103 c104 c105 c106 c107 c108 c109 c110 c111 c112 c113 c114 c115 c116 c117 c118 c119 c120 c121 c122 c123 c124 c125 c126 c127 c128 c129 c130 c131 c132 c133 c134 c135 c136 c137 c138 c139 c140 c141 c142 c143 c144 c145 c146 c147 c148 c149 c150 c151 c152 c153 c154 c155 c156 c157 c158 c159 c160 c161 c162 c163 c164 c165 c166 c167 c168 c169 c170 c171 c172 c173 c174 c175 c176 c177 c178 c179 c180 c181 c182 c183 c184 c185 c186 c187 c188 c189 c190 c191 c192 c193 c194 c195 c196 c197 c198 c199 c200 c201 c202 c203 c204 c205 c206 c207 c208 c209 c210 c211 c212 c213 c214 c215 c216 c217 c218 c219 c220 c221 c222 c223 c224 c225 c226 c227 c228 c229 c230 c231 : Value}
    (hq : ∀ d4 d11 d12 d16 d17 d18 d19 d20 d21 d22 d23 d75 d76 d77 d78 d79 d80 d81 d82 d83 d84 d85 d86 d87 d88 d89 d90 d91 d92 d93 d94 d95 d96 d97 d98 d99 d100 d101 d102 d103 d104 d105 d106 d107 d108 d109 d110 d111 d112 d113 d114 d115 d116 d117 d118 d119 d120 d121 d122 d123 d124 d125 d126 d127 d128 d129 d130 d131 d132 d133 d134 d135 d136 d137 d138 d139 d140 d141 d142 d143 d144 d145 d146 d147 d148 d149 d150 d151 d152 d153 d154 d155 d156 d157 d158 d159 d160 d161 d162 d163 d164 d165 d166 d167 w6, MidAt w g r X O x d11 d12 w6 → Q .normal ⟨#[c0, c1, c2, c3, d4, (.pointer (some ⟨g, 0, none⟩)), (.pointer (some ⟨r, 0, none⟩)), c7, c8, c9, c10, d11, d12, c13, (.pointer (some ⟨X, 0, none⟩)), (.pointer (some ⟨O, 0, none⟩)), d16, d17, d18, d19, d20, d21, d22, d23, c24, c25, c26, c27, c28, c29, c30, c31, c32, c33, c34, c35, c36, c37, c38, c39, c40, c41, c42, c43, c44, c45, c46, c47, c48, c49, c50, c51, c52, c53, c54, c55, c56, c57, c58, c59, c60, c61, c62, c63, c64, c65, c66, c67, c68, c69, c70, c71, c72, c73, (.int .u8 kk), d75, d76, d77, d78, d79, d80, d81, d82, d83, d84, d85, d86, d87, d88, d89, d90, d91, d92, d93, d94, d95, d96, d97, d98, d99, d100, d101, d102, d103, d104, d105, d106, d107, d108, d109, d110, d111, d112, d113, d114, d115, d116, d117, d118, d119, d120, d121, d122, d123, d124, d125, d126, d127, d128, d129, d130, d131, d132, d133, d134, d135, d136, d137, d138, d139, d140, d141, d142, d143, d144, d145, d146, d147, d148, d149, d150, d151, d152, d153, d154, d155, d156, d157, d158, d159, d160, d161, d162, d163, d164, d165, d166, d167, c168, c169, c170, c171, c172, c173, c174, c175, c176, c177, c178, c179, c180, c181, c182, c183, c184, c185, c186, c187, c188, c189, c190, c191, c192, c193, c194, c195, c196, c197, c198, c199, c200, c201, c202, c203, c204, c205, c206, c207, c208, c209, c210, c211, c212, c213, c214, c215, c216, c217, c218, c219, c220, c221, c222, c223, c224, c225, c226, c227, c228, c229, c230, c231], []⟩ w6) :
    Code.wp Try.prog (((Try.f3.body).bind (blockNo 2)).getD .skip) Q ⟨#[c0, c1, c2, c3, c4, (.pointer (some ⟨g, 0, none⟩)), (.pointer (some ⟨r, 0, none⟩)), c7, c8, c9, c10, (.pointer (some ⟨c, 0, none⟩)), (.pointer (some ⟨d, 0, none⟩)), c13, (.pointer (some ⟨X, 0, none⟩)), (.pointer (some ⟨O, 0, none⟩)), c16, c17, c18, c19, c20, c21, c22, c23, c24, c25, c26, c27, c28, c29, c30, c31, c32, c33, c34, c35, c36, c37, c38, c39, c40, c41, c42, c43, c44, c45, c46, c47, c48, c49, c50, c51, c52, c53, c54, c55, c56, c57, c58, c59, c60, c61, c62, c63, c64, c65, c66, c67, c68, c69, c70, c71, c72, c73, (.int .u8 kk), c75, c76, c77, c78, c79, c80, c81, c82, c83, c84, c85, c86, c87, c88, c89, c90, c91, c92, c93, c94, c95, c96, c97, c98, c99, c100, c101, c102, c103, c104, c105, c106, c107, c108, c109, c110, c111, c112, c113, c114, c115, c116, c117, c118, c119, c120, c121, c122, c123, c124, c125, c126, c127, c128, c129, c130, c131, c132, c133, c134, c135, c136, c137, c138, c139, c140, c141, c142, c143, c144, c145, c146, c147, c148, c149, c150, c151, c152, c153, c154, c155, c156, c157, c158, c159, c160, c161, c162, c163, c164, c165, c166, c167, c168, c169, c170, c171, c172, c173, c174, c175, c176, c177, c178, c179, c180, c181, c182, c183, c184, c185, c186, c187, c188, c189, c190, c191, c192, c193, c194, c195, c196, c197, c198, c199, c200, c201, c202, c203, c204, c205, c206, c207, c208, c209, c210, c211, c212, c213, c214, c215, c216, c217, c218, c219, c220, c221, c222, c223, c224, c225, c226, c227, c228, c229, c230, c231], []⟩ W := by
  conv => arg 2; whnf
  have HQ := Lib.hid hq
  clear hq
  rcases hs with rfl | rfl | rfl | rfl | rfl | rfl
  · have C := Lib.hid (pplace_any (x := ⟨N, x.o.ow, x.o.sl, x.o.bu, x.o.lf, x.o.nu, x.o.de⟩) W5.out.pb I3.out ⟨⟨by have := I3.out.n1; show 0 ≤ N; omega, I3.out.n2⟩, HX.out.o.ow, HX.out.o.sl, HX.out.o.bu, HX.out.o.lf, HX.out.o.nu, HX.out.o.de⟩)
    have kl := KO5.out.lt
    have e0 := KO5.out.cell 0
    have e1 := KO5.out.cell 1
    have e2 := KO5.out.cell 2
    have e3 := KO5.out.cell 3
    have e4 := KO5.out.cell 4
    have e5 := KO5.out.cell 5
    have e6 := KO5.out.cell 6
    simp at e0 e1 e2 e3 e4 e5 e6
    go_wp2_with fail
    clear kl e0 e1 e2 e3 e4 e5 e6
    refine C.out.mono ?_
    rintro e w2 ⟨rfl, vl2, h2, k2, m2⟩
    have W6 := Lib.hid (W5.out.pmut h2 k2 m2)
    have KO6 := Lib.hid (KO5.out.keep k2 (foot_off W5.out.pb KO5.out (by decide) (by decide)))
    clear h2 k2 m2 C W5 KO5 KX5
    have C := Lib.hid (bplace_any (x := ⟨N, x.o.ow, x.o.sl, x.o.bu, x.o.lf, x.o.nu, x.o.de⟩) W6.out.mb I3.out.len (by have := I3.out.n1; show 0 ≤ N; omega) I3.out.n2)
    have kl := KO6.out.lt
    have e0 := KO6.out.cell 0
    have e1 := KO6.out.cell 1
    have e2 := KO6.out.cell 2
    have e3 := KO6.out.cell 3
    have e4 := KO6.out.cell 4
    have e5 := KO6.out.cell 5
    have e6 := KO6.out.cell 6
    simp at e0 e1 e2 e3 e4 e5 e6
    go_wp2_with fail
    clear kl e0 e1 e2 e3 e4 e5 e6
    refine C.out.mono ?_
    rintro e w3 ⟨rfl, vm2, h3, k3⟩
    have W7 := Lib.hid (W6.out.rmut h3 k3)
    have KO7 := Lib.hid (KO6.out.keep k3 (blkNe KO6.out W6.out.mb.blk (by decide)))
    have I4 := Lib.hid (BInv.place (x := ⟨N, x.o.ow, x.o.sl, x.o.bu, x.o.lf, x.o.nu, x.o.de⟩) I3.out)
    clear h3 k3 C W6 KO6
    go_wp2_with fail
    exact HQ.out _ _ _ _ _ _ _ _ _ _ _ _ _ _ _ _ _ _ _ _ _ _ _ _ _ _ _ _ _ _ _ _ _ _ _ _ _ _ _ _ _ _ _ _ _ _ _ _ _ _ _ _ _ _ _ _ _ _ _ _ _ _ _ _ _ _ _ _ _ _ _ _ _ _ _ _ _ _ _ _ _ _ _ _ _ _ _ _ _ _ _ _ _ _ _ _ _ _ _ _ _ _ _ _ _ ⟨_, _, _, _, _, _, _, _, _, _, rfl, rfl, W7.out, I4.out, J3.out, KO7.out⟩
  · have C := Lib.hid (pplace_any (x := ⟨N, x.o.ow, x.o.sl, x.o.bu, x.o.lf, x.o.nu, x.o.de⟩) W5.out.pb I3.out ⟨⟨by have := I3.out.n1; show 0 ≤ N; omega, I3.out.n2⟩, HX.out.o.ow, HX.out.o.sl, HX.out.o.bu, HX.out.o.lf, HX.out.o.nu, HX.out.o.de⟩)
    have kl := KO5.out.lt
    have e0 := KO5.out.cell 0
    have e1 := KO5.out.cell 1
    have e2 := KO5.out.cell 2
    have e3 := KO5.out.cell 3
    have e4 := KO5.out.cell 4
    have e5 := KO5.out.cell 5
    have e6 := KO5.out.cell 6
    simp at e0 e1 e2 e3 e4 e5 e6
    go_wp2_with fail
    clear kl e0 e1 e2 e3 e4 e5 e6
    refine C.out.mono ?_
    rintro e w2 ⟨rfl, vl2, h2, k2, m2⟩
    have W6 := Lib.hid (W5.out.pmut h2 k2 m2)
    have KO6 := Lib.hid (KO5.out.keep k2 (foot_off W5.out.pb KO5.out (by decide) (by decide)))
    clear h2 k2 m2 C W5 KO5 KX5
    have C := Lib.hid (bplace_any (x := ⟨N, x.o.ow, x.o.sl, x.o.bu, x.o.lf, x.o.nu, x.o.de⟩) W6.out.mb I3.out.len (by have := I3.out.n1; show 0 ≤ N; omega) I3.out.n2)
    have kl := KO6.out.lt
    have e0 := KO6.out.cell 0
    have e1 := KO6.out.cell 1
    have e2 := KO6.out.cell 2
    have e3 := KO6.out.cell 3
    have e4 := KO6.out.cell 4
    have e5 := KO6.out.cell 5
    have e6 := KO6.out.cell 6
    simp at e0 e1 e2 e3 e4 e5 e6
    go_wp2_with fail
    clear kl e0 e1 e2 e3 e4 e5 e6
    refine C.out.mono ?_
    rintro e w3 ⟨rfl, vm2, h3, k3⟩
    have W7 := Lib.hid (W6.out.rmut h3 k3)
    have KO7 := Lib.hid (KO6.out.keep k3 (blkNe KO6.out W6.out.mb.blk (by decide)))
    have I4 := Lib.hid (BInv.place (x := ⟨N, x.o.ow, x.o.sl, x.o.bu, x.o.lf, x.o.nu, x.o.de⟩) I3.out)
    clear h3 k3 C W6 KO6
    go_wp2_with fail
    exact HQ.out _ _ _ _ _ _ _ _ _ _ _ _ _ _ _ _ _ _ _ _ _ _ _ _ _ _ _ _ _ _ _ _ _ _ _ _ _ _ _ _ _ _ _ _ _ _ _ _ _ _ _ _ _ _ _ _ _ _ _ _ _ _ _ _ _ _ _ _ _ _ _ _ _ _ _ _ _ _ _ _ _ _ _ _ _ _ _ _ _ _ _ _ _ _ _ _ _ _ _ _ _ _ _ _ _ ⟨_, _, _, _, _, _, _, _, _, _, rfl, rfl, W7.out, I4.out, J3.out, KO7.out⟩
  · have C := Lib.hid (pplace_any (x := ⟨N, x.o.ow, x.o.sl, x.o.bu, x.o.lf, x.o.nu, x.o.de⟩) W5.out.pb I3.out ⟨⟨by have := I3.out.n1; show 0 ≤ N; omega, I3.out.n2⟩, HX.out.o.ow, HX.out.o.sl, HX.out.o.bu, HX.out.o.lf, HX.out.o.nu, HX.out.o.de⟩)
    have kl := KO5.out.lt
    have e0 := KO5.out.cell 0
    have e1 := KO5.out.cell 1
    have e2 := KO5.out.cell 2
    have e3 := KO5.out.cell 3
    have e4 := KO5.out.cell 4
    have e5 := KO5.out.cell 5
    have e6 := KO5.out.cell 6
    simp at e0 e1 e2 e3 e4 e5 e6
    go_wp2_with fail
    clear kl e0 e1 e2 e3 e4 e5 e6
    refine C.out.mono ?_
    rintro e w2 ⟨rfl, vl2, h2, k2, m2⟩
    have W6 := Lib.hid (W5.out.pmut h2 k2 m2)
    have KO6 := Lib.hid (KO5.out.keep k2 (foot_off W5.out.pb KO5.out (by decide) (by decide)))
    clear h2 k2 m2 C W5 KO5 KX5
    have C := Lib.hid (bplace_any (x := ⟨N, x.o.ow, x.o.sl, x.o.bu, x.o.lf, x.o.nu, x.o.de⟩) W6.out.mb I3.out.len (by have := I3.out.n1; show 0 ≤ N; omega) I3.out.n2)
    have kl := KO6.out.lt
    have e0 := KO6.out.cell 0
    have e1 := KO6.out.cell 1
    have e2 := KO6.out.cell 2
    have e3 := KO6.out.cell 3
    have e4 := KO6.out.cell 4
    have e5 := KO6.out.cell 5
    have e6 := KO6.out.cell 6
    simp at e0 e1 e2 e3 e4 e5 e6
    go_wp2_with fail
    clear kl e0 e1 e2 e3 e4 e5 e6
    refine C.out.mono ?_
    rintro e w3 ⟨rfl, vm2, h3, k3⟩
    have W7 := Lib.hid (W6.out.rmut h3 k3)
    have KO7 := Lib.hid (KO6.out.keep k3 (blkNe KO6.out W6.out.mb.blk (by decide)))
    have I4 := Lib.hid (BInv.place (x := ⟨N, x.o.ow, x.o.sl, x.o.bu, x.o.lf, x.o.nu, x.o.de⟩) I3.out)
    clear h3 k3 C W6 KO6
    go_wp2_with fail
    exact HQ.out _ _ _ _ _ _ _ _ _ _ _ _ _ _ _ _ _ _ _ _ _ _ _ _ _ _ _ _ _ _ _ _ _ _ _ _ _ _ _ _ _ _ _ _ _ _ _ _ _ _ _ _ _ _ _ _ _ _ _ _ _ _ _ _ _ _ _ _ _ _ _ _ _ _ _ _ _ _ _ _ _ _ _ _ _ _ _ _ _ _ _ _ _ _ _ _ _ _ _ _ _ _ _ _ _ ⟨_, _, _, _, _, _, _, _, _, _, rfl, rfl, W7.out, I4.out, J3.out, KO7.out⟩
  · have C := Lib.hid (pcancel_any W5.out.pb I3.out x.o.ow x.o.se)
    have kl := KO5.out.lt
    have e0 := KO5.out.cell 0
    have e1 := KO5.out.cell 1
    have e2 := KO5.out.cell 2
    have e3 := KO5.out.cell 3
    have e4 := KO5.out.cell 4
    have e5 := KO5.out.cell 5
    have e6 := KO5.out.cell 6
    simp at e0 e1 e2 e3 e4 e5 e6
    go_wp2_with fail
    clear kl e0 e1 e2 e3 e4 e5 e6
    refine C.out.mono ?_
    rintro e w2 ⟨rfl, vl2, h2, k2, m2⟩
    have W6 := Lib.hid (W5.out.pmut h2 k2 m2)
    have KO6 := Lib.hid (KO5.out.keep k2 (foot_off W5.out.pb KO5.out (by decide) (by decide)))
    clear h2 k2 m2 C W5 KO5 KX5
    have C := Lib.hid (bcancel_any W6.out.mb x.o.ow x.o.se (by have := I3.out.len; omega))
    have kl := KO6.out.lt
    have e0 := KO6.out.cell 0
    have e1 := KO6.out.cell 1
    have e2 := KO6.out.cell 2
    have e3 := KO6.out.cell 3
    have e4 := KO6.out.cell 4
    have e5 := KO6.out.cell 5
    have e6 := KO6.out.cell 6
    simp at e0 e1 e2 e3 e4 e5 e6
    go_wp2_with fail
    clear kl e0 e1 e2 e3 e4 e5 e6
    refine C.out.mono ?_
    rintro e w3 ⟨rfl, vm2, h3, k3⟩
    have W7 := Lib.hid (W6.out.rmut h3 k3)
    have KO7 := Lib.hid (KO6.out.keep k3 (blkNe KO6.out W6.out.mb.blk (by decide)))
    have I4 := Lib.hid (I3.out.cancel x.o.ow x.o.se)
    clear h3 k3 C W6 KO6
    go_wp2_with fail
    exact HQ.out _ _ _ _ _ _ _ _ _ _ _ _ _ _ _ _ _ _ _ _ _ _ _ _ _ _ _ _ _ _ _ _ _ _ _ _ _ _ _ _ _ _ _ _ _ _ _ _ _ _ _ _ _ _ _ _ _ _ _ _ _ _ _ _ _ _ _ _ _ _ _ _ _ _ _ _ _ _ _ _ _ _ _ _ _ _ _ _ _ _ _ _ _ _ _ _ _ _ _ _ _ _ _ _ _ ⟨_, _, _, _, _, _, _, _, _, _, rfl, rfl, W7.out, I4.out, J3.out, KO7.out⟩
  · have C1 : Hid (∀ w' vl vm lm, PlayW w w' g r c d l N vl lm N vm lc Nc vc vd → Calls Try.prog 20 #[.pointer (some ⟨g, 0, none⟩), .int .u64 x.o.se, .int .i64 x.n] w' fun e w'' => e = .returned (.int .i64 (takeE l x.o.se x.n)) ∧ ∃ vl', PB w'' w.heap.size g (takeL l x.o.se x.n) N vl' ∧ Keep (Foot g vl) w' w'' ∧ Moved w' vl vl') := Lib.hid fun w' vl vm lm h => ptake_any h.pb I3.out x.o.se x.n
    have C2 : Hid (∀ w' vl vm lp, PlayW w w' g r c d lp N vl l N vm lc Nc vc vd → Calls Try.prog 21 #[.pointer (some ⟨r, 0, none⟩), .int .u64 x.o.se, .int .i64 x.n] w' fun e w'' => e = .returned (.int .i64 (takeE l x.o.se x.n)) ∧ ∃ vm', RefB w'' w.heap.size r (takeL l x.o.se x.n) N vm' ∧ Keep (· = r) w' w'') := Lib.hid fun w' vl vm lp h => btake_any h.mb x.o.se x.n (by have := I3.out.len; omega) (fun y hy => (I3.out.fits hy).lf.2)
    have I4 := Lib.hid (I3.out.take x.o.se x.n)
    go_wp2_with fail
    refine play_r37 W5 KX5 KO5 C1 C2 ?_
    rintro w6 ⟨⟨vl6, vm6, hw6⟩, hk6⟩
    have W7 := Lib.hid hw6
    have KO7 := Lib.hid hk6
    clear hw6 hk6 C1 C2 W5 KX5 KO5
    go_wp2_with fail
    exact HQ.out _ _ _ _ _ _ _ _ _ _ _ _ _ _ _ _ _ _ _ _ _ _ _ _ _ _ _ _ _ _ _ _ _ _ _ _ _ _ _ _ _ _ _ _ _ _ _ _ _ _ _ _ _ _ _ _ _ _ _ _ _ _ _ _ _ _ _ _ _ _ _ _ _ _ _ _ _ _ _ _ _ _ _ _ _ _ _ _ _ _ _ _ _ _ _ _ _ _ _ _ _ _ _ _ _ ⟨_, _, _, _, _, _, _, _, _, _, rfl, rfl, W7.out, I4.out, J3.out, KO7.out⟩
  · have C := Lib.hid (same4_any W5.out.cb W5.out.db (by have := J3.out.len; omega))
    go_wp2_with fail
    refine C.out.mono ?_
    rintro e w2 ⟨rfl, b2⟩
    have W6 := Lib.hid (W5.out.below b2)
    have KO6 := Lib.hid (KO5.out.below b2 KO5.out.lt)
    clear b2 C W5 KO5 KX5
    have C := Lib.hid (pcopyB_any W6.out.pb I3.out.n1 (by have := I3.out.len; omega))
    go_wp2_with fail
    refine C.out.mono ?_
    rintro e w3 ⟨c3, vc3, rfl, p3, g3, o3, b3⟩
    have W7 := Lib.hid (W6.out.below b3)
    have KO7 := Lib.hid (KO6.out.below b3 KO6.out.lt)
    have P3 := Lib.hid p3
    have B3 := Lib.hid b3
    have G3 := Lib.hid (And.intro g3 o3)
    clear p3 g3 o3 b3 C KO6
    have C := Lib.hid (bcopy_any W7.out.mb (by have := I3.out.len; omega))
    go_wp2_with fail
    refine C.out.mono ?_
    rintro e w4 ⟨d4, vd4, rfl, p4, g4, o4, b4⟩
    have W8 := Lib.hid (W6.out.copied B3.out b4 P3.out G3.out.1 G3.out.2 p4 g4)
    have KO8 := Lib.hid (KO7.out.below b4 KO7.out.lt)
    clear p4 g4 o4 b4 C W6 W7 KO7 P3 B3 G3
    go_wp2_with fail
    exact HQ.out _ _ _ _ _ _ _ _ _ _ _ _ _ _ _ _ _ _ _ _ _ _ _ _ _ _ _ _ _ _ _ _ _ _ _ _ _ _ _ _ _ _ _ _ _ _ _ _ _ _ _ _ _ _ _ _ _ _ _ _ _ _ _ _ _ _ _ _ _ _ _ _ _ _ _ _ _ _ _ _ _ _ _ _ _ _ _ _ _ _ _ _ _ _ _ _ _ _ _ _ _ _ _ _ _ ⟨_, _, _, _, _, _, _, _, _, _, rfl, rfl, W8.out, I3.out, I3.out, KO8.out⟩
set_option maxHeartbeats 16000000 in
set_option maxRecDepth 100000 in
theorem bplay_walk (a : Option Addr) (len cap : Nat) (xs : List Ab) (next : Int) (w : World) (h : SlIn Ab.vals 9 Ab.Ok w a len cap xs) (hx0 : (Lit.int .u64 next).wf = true) :
    Calls Try.prog 3 #[.slice a len cap, .int .u64 next] w fun e w' => e = .returned (.bool true) ∧ Below w.heap.size w w' := by
  have hnx := InU64.of_wf hx0
  clear hx0
  have HA := Lib.hid h
  have hxl : xs.length = len := h.2.1
  have hcap := h.2.2.2.1
  have hmax := h.2.2.2.2.1
  unfold maxLen at hmax
  clear h
  by_cases h120 : 120 < len
  · have q0 : decide (120 < (len : Int)) = true := by simp; omega
    have L := Lib.hid (lives04_any w)
    clear h120 hnx HA
    go_enter Try.func3, Try.ntmps3
    go_wp2_with fail
    refine L.out.mono ?_
    rintro e w1 ⟨rfl, b1⟩
    have B1 := Lib.hid b1
    clear b1 L
    go_wp2_with fail
    go_ret
    exact ⟨rfl, B1.out⟩
  have q0 : decide (120 < (len : Int)) = false := by simp; omega
  go_enter Try.func3, Try.ntmps3
  go_wp2_with fail
  refine (pnew_any w w.heap.size (Nat.le_refl _)).mono ?_
  rintro e w1 ⟨rfl, p1, b1⟩
  have P1 := Lib.hid p1
  have B1 := Lib.hid b1
  clear p1 b1
  have CN := Lib.hid (bnew_any w1 w.heap.size B1.out.size)
  go_wp2_with fail
  refine CN.out.mono ?_
  rintro e w2 ⟨rfl, m2, b2⟩
  have P2 := Lib.hid (P1.out.below b2)
  have M2 := Lib.hid m2
  have B2 := Lib.hid (B1.out.trans (b2.mono B1.out.size))
  clear m2 b2 P1 B1 CN
  have hsz := hnx
  have PS : Hid (StartAt w (.pointer (some ⟨w.heap.size, 0, none⟩)) (.pointer (some ⟨w1.heap.size, 0, none⟩)) w2) := Lib.hid ⟨_, _, 1, _, _, rfl, rfl, P2.out, M2.out, ⟨by omega, by omega⟩, B2.out⟩
  go_upto_if 37 with fail
  go_cut [5, 6] (fun s5 s6 wx => StartAt w s5 s6 wx)
  case first =>
    by_cases hn : 0 < next
    · have q1 : decide (0 < next) = true := by simp [hn]
      have CO := Lib.hid (pof_new (w := w2) hn hnx.2)
      go_wp2_with fail
      refine CO.out.mono ?_
      rintro e w3 ⟨g, vl, rfl, p3, b3⟩
      have P3 := Lib.hid p3
      have B3 := Lib.hid (B2.out.trans (b3.mono B2.out.size))
      clear p3 b3 CO
      have CD := Lib.hid (bof_new (w := w3) hn hnx.2)
      go_wp2_with fail
      refine CD.out.mono ?_
      rintro e w4 ⟨r, vm, rfl, m4, b4⟩
      have B4 := Lib.hid (B3.out.trans (b4.mono B3.out.size))
      have SA : Hid (StartAt w (.pointer (some ⟨g, 0, none⟩)) (.pointer (some ⟨r, 0, none⟩)) w4) := Lib.hid ⟨g, r, next, vl, vm, rfl, rfl, (P3.out.below b4).down B2.out.size, m4.down B3.out.size, ⟨by omega, by omega⟩, B4.out⟩
      clear m4 b4 CD PS
      go_wp2_with fail
      go_meet
      case rel => exact SA.out
    · have q1 : decide (0 < next) = false := by simp [hn]
      go_wp2_with fail
      go_meet
      case rel => exact PS.out
  case rest =>
    clear PS P2 M2 B2
    obtain ⟨g, r, N, vl, vm, rfl, rfl, hp, hm, hN, hB⟩ := hcut
    have P3 := Lib.hid hp
    have M3 := Lib.hid hm
    have B3 := Lib.hid hB
    have I3 := Lib.hid (BInv.nil hN.1 hN.2)
    clear hp hm hB
    have CC := Lib.hid (pcopyB_any P3.out hN.1 (by simp))
    go_wp2_with fail
    refine CC.out.mono ?_
    rintro e w4 ⟨c, vc, rfl, c4, hc1, hc2, b4⟩
    have P4 := Lib.hid (P3.out.below b4)
    have M4 := Lib.hid (M3.out.below b4)
    have B4 := Lib.hid (B3.out.trans (b4.mono B3.out.size))
    have C4 := Lib.hid c4
    have U4 := Lib.hid (And.intro hc1 hc2)
    have Z4 := Lib.hid b4.size
    clear c4 hc1 hc2 b4 CC
    have CD := Lib.hid (bcopy_any M4.out (by simp))
    go_wp2_with fail
    refine CD.out.mono ?_
    rintro e w5 ⟨d, vd, rfl, d5, hd1, hd2, b5⟩
    have W5 : Hid (PlayW w w5 g r c d [] N vl [] N vm [] N vc vd) := Lib.hid ⟨P4.out.below b5, M4.out.below b5, C4.out.below b5, d5, by
      intro b hb hf
      have h6 := (P3.out.lt hf).2
      rcases hb with e | e
      · have := U4.out.1; omega
      · have := U4.out.2 b e; omega, by have := M4.out.blk.lt; omega, B4.out.trans (b5.mono B4.out.size)⟩
    clear d5 hd1 hd2 b5 CD P3 P4 M3 M4 B3 B4 C4 U4 Z4
    go_wp2_with fail
    go_loopw [11, 12, 13] (PlayAt w g r len) (fun _ _ i _ => len - (intOf i).toNat)
    case atStart => exact ⟨0, [], N, vl, vm, c, d, [], N, vc, vd, Nat.zero_le _, rfl, rfl, rfl, W5.out, I3.out, I3.out⟩
    case round =>
      clear W5 I3 hN
      obtain ⟨k, l, N, vl, vm, c, d, lc, Nc, vc, vd, hk, rfl, rfl, rfl, hW, hI, hJ⟩ := hrel
      have W3 := Lib.hid hW
      have I3 := Lib.hid hI
      have J3 := Lib.hid hJ
      clear hW hI hJ
      by_cases hkl : k < len
      · obtain ⟨b, off, rfl, hb, d0, d1, d2, d3, d4, d5, d6, d7, d8⟩ := (HA.out.below W3.out.keep).act (i := k) (by omega)
        have hx := HA.out.2.2.1 xs[k] (List.getElem_mem _)
        generalize hxe : xs[k] = x at *
        clear hxe
        have HX := Lib.hid hx
        obtain ⟨k1, k2⟩ := hx.k
        clear hx
        have bx := (Below.refl wr.heap.size wr).alloc (Nat.le_refl _) (.cells #[.int .u8 x.k, .int .u64 x.o.se, .int .u8 x.o.ow, .int .u8 x.o.sl, .int .u8 x.o.bu, .int .i64 x.o.lf, .int .i64 x.o.nu, .int .i64 x.o.de, .int .i64 x.n] 41)
        have W4 := Lib.hid (W3.out.below bx)
        have KX4 := Lib.hid (Blk.new wr #[.int .u8 x.k, .int .u64 x.o.se, .int .u8 x.o.ow, .int .u8 x.o.sl, .int .u8 x.o.bu, .int .i64 x.o.lf, .int .i64 x.o.nu, .int .i64 x.o.de, .int .i64 x.n] 41)
        have bo := (Below.refl (wr.alloc (.cells #[.int .u8 x.k, .int .u64 x.o.se, .int .u8 x.o.ow, .int .u8 x.o.sl, .int .u8 x.o.bu, .int .i64 x.o.lf, .int .i64 x.o.nu, .int .i64 x.o.de, .int .i64 x.n] 41)).heap.size (wr.alloc (.cells #[.int .u8 x.k, .int .u64 x.o.se, .int .u8 x.o.ow, .int .u8 x.o.sl, .int .u8 x.o.bu, .int .i64 x.o.lf, .int .i64 x.o.nu, .int .i64 x.o.de, .int .i64 x.n] 41))).alloc (Nat.le_refl _) (.cells #[.int .u64 x.o.se, .int .u8 x.o.ow, .int .u8 x.o.sl, .int .u8 x.o.bu, .int .i64 x.o.lf, .int .i64 x.o.nu, .int .i64 x.o.de] 39)
        have W5 := Lib.hid (W4.out.below bo)
        have KX5 := Lib.hid (KX4.out.below bo KX4.out.lt)
        have KO5 : Hid (Blk ((wr.alloc (.cells #[.int .u8 x.k, .int .u64 x.o.se, .int .u8 x.o.ow, .int .u8 x.o.sl, .int .u8 x.o.bu, .int .i64 x.o.lf, .int .i64 x.o.nu, .int .i64 x.o.de, .int .i64 x.n] 41)).alloc (.cells #[.int .u64 x.o.se, .int .u8 x.o.ow, .int .u8 x.o.sl, .int .u8 x.o.bu, .int .i64 x.o.lf, .int .i64 x.o.nu, .int .i64 x.o.de] 39)) (wr.heap.size + 1) #[.int .u64 x.o.se, .int .u8 x.o.ow, .int .u8 x.o.sl, .int .u8 x.o.bu, .int .i64 x.o.lf, .int .i64 x.o.nu, .int .i64 x.o.de] 39) := Lib.hid (by
          have e : (wr.alloc (.cells #[.int .u8 x.k, .int .u64 x.o.se, .int .u8 x.o.ow, .int .u8 x.o.sl, .int .u8 x.o.bu, .int .i64 x.o.lf, .int .i64 x.o.nu, .int .i64 x.o.de, .int .i64 x.n] 41)).heap.size = wr.heap.size + 1 := World.size_alloc _ _
          have q := Blk.new (wr.alloc (.cells #[.int .u8 x.k, .int .u64 x.o.se, .int .u8 x.o.ow, .int .u8 x.o.sl, .int .u8 x.o.bu, .int .i64 x.o.lf, .int .i64 x.o.nu, .int .i64 x.o.de, .int .i64 x.n] 41)) #[.int .u64 x.o.se, .int .u8 x.o.ow, .int .u8 x.o.sl, .int .u8 x.o.bu, .int .i64 x.o.lf, .int .i64 x.o.nu, .int .i64 x.o.de] 39
          rwa [e] at q)
        clear bx bo W3 W4 KX4
        go_upto_block 2 with fail
        generalize hW0 : (wr.alloc (.cells #[.int .u8 x.k, .int .u64 x.o.se, .int .u8 x.o.ow, .int .u8 x.o.sl, .int .u8 x.o.bu, .int .i64 x.o.lf, .int .i64 x.o.nu, .int .i64 x.o.de, .int .i64 x.n] 41)).alloc (.cells #[.int .u64 x.o.se, .int .u8 x.o.ow, .int .u8 x.o.sl, .int .u8 x.o.bu, .int .i64 x.o.lf, .int .i64 x.o.nu, .int .i64 x.o.de] 39) = W at *
        clear hW0
        generalize hO0 : wr.heap.size + 1 = O at *
        clear hO0
        generalize wr.heap.size = X at *
        have hs : x.k % 6 = 0 ∨ x.k % 6 = 1 ∨ x.k % 6 = 2 ∨ x.k % 6 = 3 ∨ x.k % 6 = 4 ∨ x.k % 6 = 5 := by omega
        generalize x.k % 6 = kk at *
        refine play_b2 W5 I3 J3 KX5 KO5 HX hs ?_
        intro d4 d11 d12 d16 d17 d18 d19 d20 d21 d22 d23 d75 d76 d77 d78 d79 d80 d81 d82 d83 d84 d85 d86 d87 d88 d89 d90 d91 d92 d93 d94 d95 d96 d97 d98 d99 d100 d101 d102 d103 d104 d105 d106 d107 d108 d109 d110 d111 d112 d113 d114 d115 d116 d117 d118 d119 d120 d121 d122 d123 d124 d125 d126 d127 d128 d129 d130 d131 d132 d133 d134 d135 d136 d137 d138 d139 d140 d141 d142 d143 d144 d145 d146 d147 d148 d149 d150 d151 d152 d153 d154 d155 d156 d157 d158 d159 d160 d161 d162 d163 d164 d165 d166 d167 wc hcut
        clear W5 I3 J3 KO5 KX5 hs
        obtain ⟨l, N, vl, vm, c, d, lc, Nc, vc, vd, rfl, rfl, hW, hI, hJ, hO⟩ := hcut
        have W1 := Lib.hid hW
        have I1 := Lib.hid hI
        have J1 := Lib.hid hJ
        have KO1 := Lib.hid hO
        have hl32 := hI.len
        clear hW hI hJ hO
        obtain ⟨y, s, hy⟩ := foundV_is (findO l x.o.se)
        have CP := Lib.hid (pfind_any W1.out.pb I1.out.n1 x.o.se)
        rw [hy] at CP
        have kl := KO1.out.lt
        have e0 := KO1.out.cell 0
        have e1 := KO1.out.cell 1
        have e2 := KO1.out.cell 2
        have e3 := KO1.out.cell 3
        have e4 := KO1.out.cell 4
        have e5 := KO1.out.cell 5
        have e6 := KO1.out.cell 6
        simp at e0 e1 e2 e3 e4 e5 e6
        go_wp2_with fail
        clear kl e0 e1 e2 e3 e4 e5 e6
        refine (CP.out).mono ?_
        rintro e v1 ⟨rfl, b1⟩
        have W_2 := Lib.hid (W1.out.below b1)
        have KO_2 := Lib.hid (KO1.out.below b1 KO1.out.lt)
        clear W1 KO1
        clear b1
        clear CP
        have bz := (Below.refl v1.heap.size v1).alloc (Nat.le_refl _) (.cells #[.int .u64 y.se, .int .u8 y.ow, .int .u8 y.sl, .int .u8 y.bu, .int .i64 y.lf, .int .i64 y.nu, .int .i64 y.de] 39)
        have KY := Lib.hid (Blk.new v1 #[.int .u64 y.se, .int .u8 y.ow, .int .u8 y.sl, .int .u8 y.bu, .int .i64 y.lf, .int .i64 y.nu, .int .i64 y.de] 39)
        have W_3 := Lib.hid (W_2.out.below bz)
        have KO_3 := Lib.hid (KO_2.out.below bz KO_2.out.lt)
        clear W_2 KO_2
        clear bz
        have CP := Lib.hid (bfind_any W_3.out.mb x.o.se)
        rw [hy] at CP
        clear hy
        have kl := KO_3.out.lt
        have e0 := KO_3.out.cell 0
        have e1 := KO_3.out.cell 1
        have e2 := KO_3.out.cell 2
        have e3 := KO_3.out.cell 3
        have e4 := KO_3.out.cell 4
        have e5 := KO_3.out.cell 5
        have e6 := KO_3.out.cell 6
        simp at e0 e1 e2 e3 e4 e5 e6
        go_wp2_with fail
        clear kl e0 e1 e2 e3 e4 e5 e6
        refine (CP.out).mono ?_
        rintro e v4 ⟨rfl, b4⟩
        have W_5 := Lib.hid (W_3.out.below b4)
        have KO_5 := Lib.hid (KO_3.out.below b4 KO_3.out.lt)
        have KY_5 := Lib.hid (KY.out.below b4 KY.out.lt)
        clear W_3 KO_3 KY
        clear b4
        clear CP
        have bz := (Below.refl v4.heap.size v4).alloc (Nat.le_refl _) (.cells #[.int .u64 y.se, .int .u8 y.ow, .int .u8 y.sl, .int .u8 y.bu, .int .i64 y.lf, .int .i64 y.nu, .int .i64 y.de] 39)
        have KZ := Lib.hid (Blk.new v4 #[.int .u64 y.se, .int .u8 y.ow, .int .u8 y.sl, .int .u8 y.bu, .int .i64 y.lf, .int .i64 y.nu, .int .i64 y.de] 39)
        have W_6 := Lib.hid (W_5.out.below bz)
        have KO_6 := Lib.hid (KO_5.out.below bz KO_5.out.lt)
        have KY_6 := Lib.hid (KY_5.out.below bz KY_5.out.lt)
        clear W_5 KO_5 KY_5
        clear bz
        have CP := Lib.hid (pbest_any W_6.out.pb I1.out x.o.sl x.o.bu)
        have kl := KO_6.out.lt
        have e0 := KO_6.out.cell 0
        have e1 := KO_6.out.cell 1
        have e2 := KO_6.out.cell 2
        have e3 := KO_6.out.cell 3
        have e4 := KO_6.out.cell 4
        have e5 := KO_6.out.cell 5
        have e6 := KO_6.out.cell 6
        simp at e0 e1 e2 e3 e4 e5 e6
        go_wp2_with fail
        clear kl e0 e1 e2 e3 e4 e5 e6
        generalize v4.alloc (.cells #[.int .u64 y.se, .int .u8 y.ow, .int .u8 y.sl, .int .u8 y.bu, .int .i64 y.lf, .int .i64 y.nu, .int .i64 y.de] 39) = V at *
        have U := Lib.hid W_6.out.under
        have FR : Hid (FarR V.heap.size (fun w' => PlayW w w' g r c d l N vl l N vm lc Nc vc vd)) := Lib.hid fun w1 w2 S h k hS => PlayW.far U.out W_6.out.keep.size h k hS
        have ZV := Lib.hid (Below.refl V.heap.size V)
        refine (CP.out).mono ?_
        rintro e v7 ⟨vL, rfl, rv, b7⟩
        have W_8 := Lib.hid (W_6.out.below b7)
        have KO_8 := Lib.hid (KO_6.out.below b7 KO_6.out.lt)
        have KY_8 := Lib.hid (KY_6.out.below b7 KY_6.out.lt)
        have KZ_8 := Lib.hid (KZ.out.below b7 KZ.out.lt)
        have ZV_8 := Lib.hid (ZV.out.trans (b7.mono ZV.out.size))
        clear W_6 KO_6 KY_6 KZ ZV
        clear b7
        clear CP U
        have RL := Lib.hid rv
        clear rv
        obtain ⟨ao, pc, hv, _⟩ := rowed_offer RL.out
        subst hv
        have CP := Lib.hid (same4_any W_8.out.pb W_8.out.mb (by omega))
        have yl := KY_8.out.lt
        have zl := KZ_8.out.lt
        have y0 := KY_8.out.cell 0
        have z0 := KZ_8.out.cell 0
        have y1 := KY_8.out.cell 1
        have z1 := KZ_8.out.cell 1
        have y2 := KY_8.out.cell 2
        have z2 := KZ_8.out.cell 2
        have y3 := KY_8.out.cell 3
        have z3 := KZ_8.out.cell 3
        have y4 := KY_8.out.cell 4
        have z4 := KZ_8.out.cell 4
        have y5 := KY_8.out.cell 5
        have z5 := KZ_8.out.cell 5
        have y6 := KY_8.out.cell 6
        have z6 := KZ_8.out.cell 6
        simp at y0 z0 y1 z1 y2 z2 y3 z3 y4 z4 y5 z5 y6 z6
        go_wp2_with fail
        clear yl zl y0 z0 y1 z1 y2 z2 y3 z3 y4 z4 y5 z5 y6 z6
        refine (CP.out).mono ?_
        rintro e v9 ⟨rfl, b9⟩
        have W_10 := Lib.hid (W_8.out.below b9)
        have KO_10 := Lib.hid (KO_8.out.below b9 KO_8.out.lt)
        have KY_10 := Lib.hid (KY_8.out.below b9 KY_8.out.lt)
        have KZ_10 := Lib.hid (KZ_8.out.below b9 KZ_8.out.lt)
        have ZV_10 := Lib.hid (ZV_8.out.trans (b9.mono ZV_8.out.size))
        have RL_10 := Lib.hid (RL.out.below b9)
        clear W_8 KO_8 KY_8 KZ_8 ZV_8 RL
        clear b9
        clear CP
        have CP := Lib.hid (bbest_any W_10.out.mb x.o.sl x.o.bu (by omega))
        have kl := KO_10.out.lt
        have e0 := KO_10.out.cell 0
        have e1 := KO_10.out.cell 1
        have e2 := KO_10.out.cell 2
        have e3 := KO_10.out.cell 3
        have e4 := KO_10.out.cell 4
        have e5 := KO_10.out.cell 5
        have e6 := KO_10.out.cell 6
        simp at e0 e1 e2 e3 e4 e5 e6
        go_wp2_with fail
        clear kl e0 e1 e2 e3 e4 e5 e6
        refine (CP.out).mono ?_
        rintro e v11 ⟨v2', rfl, ro, b11⟩
        have W_12 := Lib.hid (W_10.out.below b11)
        have KO_12 := Lib.hid (KO_10.out.below b11 KO_10.out.lt)
        have KY_12 := Lib.hid (KY_10.out.below b11 KY_10.out.lt)
        have KZ_12 := Lib.hid (KZ_10.out.below b11 KZ_10.out.lt)
        have ZV_12 := Lib.hid (ZV_10.out.trans (b11.mono ZV_10.out.size))
        have RL_12 := Lib.hid (RL_10.out.below b11)
        clear W_10 KO_10 KY_10 KZ_10 ZV_10 RL_10
        clear b11
        clear CP
        have hb32 : (bestO l x.o.sl x.o.bu).length ≤ 32 := Nat.le_trans (bestO_len _ _ _) hl32
        have CP := Lib.hid (SameOffers_any (RL_12.out.reads (by omega)) (Reads.of_owns ro (by omega)))
        clear ro
        have he : decide (bestO l x.o.sl x.o.bu = bestO l x.o.sl x.o.bu) = true := by simp
        rw [he] at CP
        clear he
        go_wp2_with fail
        refine (CP.out).mono ?_
        rintro e v13 ⟨rfl, b13⟩
        have W_14 := Lib.hid (W_12.out.below b13)
        have KO_14 := Lib.hid (KO_12.out.below b13 KO_12.out.lt)
        have KY_14 := Lib.hid (KY_12.out.below b13 KY_12.out.lt)
        have KZ_14 := Lib.hid (KZ_12.out.below b13 KZ_12.out.lt)
        have ZV_14 := Lib.hid (ZV_12.out.trans (b13.mono ZV_12.out.size))
        have RL_14 := Lib.hid (RL_12.out.below b13)
        clear W_12 KO_12 KY_12 KZ_12 ZV_12 RL_12
        clear b13
        clear CP
        have T0 := Lib.hid (TailO.start FR.out W_14.out ZV_14.out.size)
        have bz := (Below.refl v13.heap.size v13).alloc (Nat.le_refl _) (.cells #[.slice none 0 0] 55)
        have RL2 := Lib.hid (RL_14.out.below bz)
        clear bz W_14 KO_14 KY_14 KZ_14 ZV_14 RL_14
        have CP := Lib.hid (offers_any T0.out.book (by simp) ao (bestO l x.o.sl x.o.bu).length pc)
        go_wp2_with fail
        generalize v13.alloc (.cells #[.slice none 0 0] 55) = V2 at *
        generalize v13.heap.size = bg at *
        refine CP.out.mono ?_
        rintro e V3 hp
        have he := hp.1
        subst he
        obtain ⟨ao1, pc1, hv1, hm1⟩ := rowed_offer RL2.out
        simp only [Value.slice.injEq] at hv1
        obtain ⟨rfl, _, rfl⟩ := hv1
        obtain ⟨bv1, ht1⟩ := T0.out.add FR.out (hm1 _ _).1 (fun b hb => ⟨((hm1 _ _).2 b hb).1, by simp⟩) hp
        have T1 := Lib.hid ht1
        clear hp ht1 hm1 CP T0 RL2
        have CP := Lib.hid (pall_any T1.out.rest.pb (by omega))
        go_wp2_with fail
        refine CP.out.mono ?_
        rintro e V4 ⟨vA, rfl, ra, b4⟩
        have T2 := Lib.hid (T1.out.below FR.out b4)
        obtain ⟨ao2, pc2, rfl, hm2⟩ := rowed_offer ra
        have FS := Lib.hid (fun b (hb : V3.heap.size ≤ b) => T1.out.fresh hb)
        have HM := Lib.hid hm2
        clear ra b4 hm2 CP T1
        have CP := Lib.hid (offers_any T2.out.book (by simp) ao2 l.length pc2)
        go_wp2_with fail
        refine CP.out.mono ?_
        rintro e V5 hp
        have he := hp.1
        subst he
        obtain ⟨bv2, ht2⟩ := T2.out.add FR.out (HM.out _ _).1 (fun b hb => FS.out b ((HM.out _ _).2 b hb).1) hp
        have T3 := Lib.hid ht2
        clear hp ht2 CP T2 HM FS
        have CP := Lib.hid (apart_any T3.out.book (by simp) T3.out.mem T3.out.apart)
        go_wp2_with fail
        refine CP.out.mono ?_
        rintro e V6 ⟨rfl, ky⟩
        have W9 := Lib.hid (T3.out.done FR.out ky)
        clear ky CP T3 FR
        go_wp2_with fail
        go_roundw
        case rel => exact ⟨k + 1, l, N, vl, vm, c, d, lc, Nc, vc, vd, by omega, by go_num, rfl, rfl, W9.out, I1.out, J1.out⟩
        case measure => simp [intOf]; omega
      · obtain rfl : k = len := by omega
        clear HA
        have C := Lib.hid (same4_any W3.out.cb W3.out.db (by have := J3.out.len; omega))
        go_wp2_with fail
        refine C.out.mono ?_
        rintro e z1 ⟨rfl, b1⟩
        have W4 := Lib.hid (W3.out.below b1)
        clear b1 C W3
        have C := Lib.hid (same4_any W4.out.pb W4.out.mb (by have := I3.out.len; omega))
        go_wp2_with fail
        refine C.out.mono ?_
        rintro e z2 ⟨rfl, b1⟩
        have W5 := Lib.hid (W4.out.below b1)
        clear b1 C W4
        have C := Lib.hid (lives04_any z2)
        go_wp2_with fail
        refine C.out.mono ?_
        rintro e z3 ⟨rfl, b1⟩
        have W6 := Lib.hid (W5.out.below b1)
        clear b1 C W5
        go_wp2_with fail
        go_ret
        exact ⟨rfl, W6.out.keep⟩

end Go.Proofs.Ytdbdeodcldogmaa
