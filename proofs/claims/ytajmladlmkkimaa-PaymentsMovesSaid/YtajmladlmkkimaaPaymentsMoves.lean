/-
  PaymentsMoves: the walk, for every acts and every payment (written by gen_pmoves.py).
-/
import Derived.Test.YtajmladlmkkimaaLives09
import Derived.Test.YtajmladlmkkimaaSound
import Derived.Test.YtajmladlmkkimaaCutR
import Derived.Test.YtajmladlmkkimaaSortL
import Derived.Test.YtajmladlmkkimaaActs
import Derived.Test.YtajmladlmkkimaaOnce
namespace Go.Proofs.Ytajmladlmkkimaa
open Go.RowKit
set_option linter.unusedSimpArgs false
set_option linter.unusedVariables false

set_option maxHeartbeats 8000000 in
set_option maxRecDepth 100000 in
theorem pmoves_r18 {W : World} {G M X : Nat} {ps : List Int} {ls : List Ln} {f : Int → Int → Int} {fr tt cu n : Int} (HL : Hid (LedM W G M ps ls)) (HI0 : Hid (LInv ps ls)) (HC : Hid (In8 cu)) (HF : Hid (roomF ps ls cu = f)) (HGI : Hid (GInv f 4398046511104)) (HP : Hid (inP fr)) (KX : Hid (Blk W X #[.int .u8 fr, .int .u8 tt, .int .u8 cu, .int .i64 n] 47)) {Q : Exit → Act → World → Prop} {c0 c1 c2 c4 c6 c7 c8 c9 c10 c11 c12 c13 c14 c15 c16 c17 c18 c19 c20 c21 c22 c23 c24 c25 c26 c27 c28 c29 c30 c31 c32 c33 c34 c35 c36 c37 c38 c39 c40 c41 c42 c43 c44 c45 c46 c47 c48 c49 c50 c51 c52 c53 c54 c55 c56 c57 c58 c59 c60 c61 c62 c63 c64 c65 c66 c67 c68 c69 c70 c71 c72 c73 c74 c75 c76 c77 c78 c79 c80 c81 c82 c83 c84 c85 c86 c87 c88 c89 c90 c91 c92 c93 c94 c95 c96 c97 c98 c99 c100 c101 c102 c103 c104 c105 c106 c107 c108 c109 c110 c111 c112 c113 c114 c115 c116 c117 c118 c119 c120 c121 c122 c123 c124 c125 c126 c127 c128 c129 c130 c131 c132 c133 c134 c135 c136 c137 c138 c139 c140 c141 c142 c143 c144 c145 c146 c147 c148 c149 c150 c151 c152 c153 c154 c155 c156 c157 c158 c159 c160 c161 c162 c163 c164 c165 c166 c167 c168 c169 c170 c171 c172 c173 c174 c175 c176 c177 c178 c179 c180 c181 c182 c183 c184 c185 c186 c187 c188 c189 c190 : Value}
    (hq : ∀ w6 v3 v6, (∃ Z : Nat, v6 = .int .u32 (Z : Int) ∧ Z < 4294967296 ∧ ∀ p, 0 ≤ p → bitS Z p = reachS f fr p) → Below W.heap.size W w6 → Q .normal ⟨#[c0, c1, c2, (.pointer (some ⟨X, 0, none⟩)), c4, (.pointer (some ⟨G, 0, none⟩)), c6, c7, c8, c9, c10, c11, v6, c13, c14, c15, c16, c17, c18, c19, c20, c21, c22, c23, c24, c25, c26, c27, c28, c29, c30, c31, c32, c33, c34, c35, c36, c37, c38, c39, c40, c41, c42, c43, c44, c45, c46, c47, c48, c49, c50, c51, c52, c53, c54, c55, c56, c57, c58, c59, c60, c61, c62, c63, c64, c65, c66, c67, c68, c69, c70, c71, c72, c73, c74, c75, c76, c77, c78, c79, c80, c81, c82, c83, c84, c85, c86, c87, c88, c89, c90, c91, c92, c93, c94, c95, c96, c97, c98, c99, c100, c101, c102, c103, c104, c105, (.pointer (some ⟨G, 0, none⟩)), (.pointer (some ⟨X, 2, none⟩)), (.int .u8 cu), v3, (.pointer (some ⟨X, 0, none⟩)), (.int .u8 fr), v6, c113, c114, c115, c116, c117, c118, c119, c120, c121, c122, c123, c124, c125, c126, c127, c128, c129, c130, c131, c132, c133, c134, c135, c136, c137, c138, c139, c140, c141, c142, c143, c144, c145, c146, c147, c148, c149, c150, c151, c152, c153, c154, c155, c156, c157, c158, c159, c160, c161, c162, c163, c164, c165, c166, c167, c168, c169, c170, c171, c172, c173, c174, c175, c176, c177, c178, c179, c180, c181, c182, c183, c184, c185, c186, c187, c188, c189, c190], []⟩ w6) :
    Code.wp Try.prog (((Try.f6.body).bind (regionNo 18)).getD .skip) Q ⟨#[c0, c1, c2, (.pointer (some ⟨X, 0, none⟩)), c4, (.pointer (some ⟨G, 0, none⟩)), c6, c7, c8, c9, c10, c11, c12, c13, c14, c15, c16, c17, c18, c19, c20, c21, c22, c23, c24, c25, c26, c27, c28, c29, c30, c31, c32, c33, c34, c35, c36, c37, c38, c39, c40, c41, c42, c43, c44, c45, c46, c47, c48, c49, c50, c51, c52, c53, c54, c55, c56, c57, c58, c59, c60, c61, c62, c63, c64, c65, c66, c67, c68, c69, c70, c71, c72, c73, c74, c75, c76, c77, c78, c79, c80, c81, c82, c83, c84, c85, c86, c87, c88, c89, c90, c91, c92, c93, c94, c95, c96, c97, c98, c99, c100, c101, c102, c103, c104, c105, c106, c107, c108, c109, c110, c111, c112, c113, c114, c115, c116, c117, c118, c119, c120, c121, c122, c123, c124, c125, c126, c127, c128, c129, c130, c131, c132, c133, c134, c135, c136, c137, c138, c139, c140, c141, c142, c143, c144, c145, c146, c147, c148, c149, c150, c151, c152, c153, c154, c155, c156, c157, c158, c159, c160, c161, c162, c163, c164, c165, c166, c167, c168, c169, c170, c171, c172, c173, c174, c175, c176, c177, c178, c179, c180, c181, c182, c183, c184, c185, c186, c187, c188, c189, c190], []⟩ W := by
  conv => arg 2; whnf
  have HQ := Lib.hid hq
  clear hq
  have hlasts : ∀ q ∈ ([(3, (fun v w => IsG w v f)), (6, (fun v _ => ∃ Z : Nat, v = .int .u32 (Z : Int) ∧ Z < 4294967296 ∧ ∀ p, 0 ≤ p → bitS Z p = reachS f fr p))] : List (Nat × (Value → World → Prop))), Lasts q.2 := by
    intro q hq
    simp only [List.mem_cons, List.not_mem_nil, or_false] at hq
    rcases hq with rfl | rfl
    · exact fun v w w' h k => IsG.below h k
    · exact fun v w w' h k => h
  have HLS := Lib.hid hlasts
  clear hlasts
  refine region_fresh (by kernel_rfl) (fun s : Nat → Value => [(.pointer (some ⟨G, 0, none⟩)), (.pointer (some ⟨X, 2, none⟩)), (.int .u8 cu), s 3, (.pointer (some ⟨X, 0, none⟩)), (.int .u8 fr), s 6, s 6])
    (Got W [(3, (fun v w => IsG w v f)), (6, (fun v _ => ∃ Z : Nat, v = .int .u32 (Z : Int) ∧ Z < 4294967296 ∧ ∀ p, 0 ≤ p → bitS Z p = reachS f fr p))]) (by kernel_rfl) (fun _ => undef) (Got.start _ _ _) ?_
  intro AF hAF
  simp only [List.toList_toArray, puts, Act.put, List.getD_cons_zero, List.getD_cons_succ, List.setIfInBounds_toArray, List.set_cons_succ, List.set_cons_zero] at hAF
  have hAF2 : _ = AF := funext hAF
  subst hAF2
  clear hAF
  refine ⟨?_, ?_⟩
  · simp only [List.toList_toArray, EachF]
    refine ⟨?_, ?_, ?_, ?_, ?_, ?_, ?_, ?_, trivial⟩
    · intro s D w' hD hW hC hI
      have hS := hI.below
      refine .inl ⟨s, fun _ _ _ => rfl, ?_⟩
      with_reducible refine OpTo.plain ?_ ?_
      exact rfl
      have HS := Lib.hid (hI.step HLS.out (Below.refl _ _) (k := 0) (by intro q hq; simp only [List.mem_cons, List.not_mem_nil, or_false] at hq; rcases hq with rfl | rfl <;> first | exact (show (3 : Nat) ≠ 0 by decide) | exact (show (6 : Nat) ≠ 0 by decide)))
      clear hI hS hC hW hD
      go_wp2_with fail
      all_goals first | exact HS.out | exact ⟨rfl, HS.out⟩ | rfl
    · intro s D w' hD hW hC hI
      have hS := hI.below
      refine .inl ⟨s, fun _ _ _ => rfl, ?_⟩
      with_reducible refine OpTo.plain ?_ ?_
      exact rfl
      have kx := KX.out.below hS KX.out.lt
      have hl := kx.lt
      have e0 := kx.cell 0; have e1 := kx.cell 1; have e2 := kx.cell 2; have e3 := kx.cell 3
      simp at e0 e1 e2 e3
      clear kx
      have HS := Lib.hid (hI.step HLS.out (Below.refl _ _) (k := 1) (by intro q hq; simp only [List.mem_cons, List.not_mem_nil, or_false] at hq; rcases hq with rfl | rfl <;> first | exact (show (3 : Nat) ≠ 1 by decide) | exact (show (6 : Nat) ≠ 1 by decide)))
      clear hI hS hC hW hD
      go_wp2_with fail
      all_goals first | exact HS.out | exact ⟨rfl, HS.out⟩ | rfl
    · intro s D w' hD hW hC hI
      have hS := hI.below
      refine .inl ⟨s, fun _ _ _ => rfl, ?_⟩
      with_reducible refine OpTo.plain ?_ ?_
      exact rfl
      have kx := KX.out.below hS KX.out.lt
      have hl := kx.lt
      have e0 := kx.cell 0; have e1 := kx.cell 1; have e2 := kx.cell 2; have e3 := kx.cell 3
      simp at e0 e1 e2 e3
      clear kx
      have HS := Lib.hid (hI.step HLS.out (Below.refl _ _) (k := 2) (by intro q hq; simp only [List.mem_cons, List.not_mem_nil, or_false] at hq; rcases hq with rfl | rfl <;> first | exact (show (3 : Nat) ≠ 2 by decide) | exact (show (6 : Nat) ≠ 2 by decide)))
      clear hI hS hC hW hD
      go_wp2_with fail
      all_goals first | exact HS.out | exact ⟨rfl, HS.out⟩ | rfl
    · intro s D w' hD hW hC hI
      have hS := hI.below
      have HI := Lib.hid hI
      have HCl := Lib.hid hC
      have HD := Lib.hid hD
      have HC := Lib.hid (((gof_led (HL.out.below hS) HI0.out HC.out).mono fun e w'' ⟨h1, h2, h3⟩ => ⟨_, h1, IsG.of h2, h3⟩ : Calls Try.prog 32 #[.pointer (some ⟨G, 0, none⟩), .int .u8 cu] w' fun e w'' => ∃ v, e = .returned v ∧ IsG w'' v (roomF ps ls cu) ∧ Below w'.heap.size w' w''))
      refine .inr ?_
      with_reducible refine OpGets.plain ?_ ?_
      exact rfl
      clear hI hS hC hW hD
      go_wp2_with fail
      refine HC.out.mono ?_
      rintro e w'' ⟨v, rfl, hv, hb2⟩
      refine ⟨v, rfl, updV s 3 v, vals_put _ (fun s : Nat → Value => [(.pointer (some ⟨G, 0, none⟩)), (.pointer (some ⟨X, 2, none⟩)), (.int .u8 cu), s 3, (.pointer (some ⟨X, 0, none⟩)), (.int .u8 fr), s 6, s 6]) s 3 v HCl.out HD.out ?_, rfl, HI.out.put HLS.out hb2 ?_⟩
      · intro j hj
        match j, hj with
        | 0, _ => exact .inr rfl
        | 1, _ => exact .inr rfl
        | 2, _ => exact .inr rfl
        | 3, _ => exact .inl (.inl rfl)
        | 4, _ => exact .inr rfl
        | 5, _ => exact .inr rfl
        | 6, _ => exact .inr rfl
        | 7, _ => exact .inr rfl
        | j + 8, _ => exact .inr rfl
      · intro q hq he
        simp only [List.mem_cons, List.not_mem_nil, or_false] at hq
        rcases hq with rfl | rfl <;> first | exact (by rw [← HF.out]; exact hv) | exact absurd (show (6 : Nat) = 3 from he) (by decide)
    · intro s D w' hD hW hC hI
      have hS := hI.below
      refine .inl ⟨s, fun _ _ _ => rfl, ?_⟩
      with_reducible refine OpTo.plain ?_ ?_
      exact rfl
      have kx := KX.out.below hS KX.out.lt
      have hl := kx.lt
      have e0 := kx.cell 0; have e1 := kx.cell 1; have e2 := kx.cell 2; have e3 := kx.cell 3
      simp at e0 e1 e2 e3
      clear kx
      have HS := Lib.hid (hI.step HLS.out (Below.refl _ _) (k := 4) (by intro q hq; simp only [List.mem_cons, List.not_mem_nil, or_false] at hq; rcases hq with rfl | rfl <;> first | exact (show (3 : Nat) ≠ 4 by decide) | exact (show (6 : Nat) ≠ 4 by decide)))
      clear hI hS hC hW hD
      go_wp2_with fail
      all_goals first | exact HS.out | exact ⟨rfl, HS.out⟩ | rfl
    · intro s D w' hD hW hC hI
      have hS := hI.below
      refine .inl ⟨s, fun _ _ _ => rfl, ?_⟩
      with_reducible refine OpTo.plain ?_ ?_
      exact rfl
      have kx := KX.out.below hS KX.out.lt
      have hl := kx.lt
      have e0 := kx.cell 0; have e1 := kx.cell 1; have e2 := kx.cell 2; have e3 := kx.cell 3
      simp at e0 e1 e2 e3
      clear kx
      have HS := Lib.hid (hI.step HLS.out (Below.refl _ _) (k := 5) (by intro q hq; simp only [List.mem_cons, List.not_mem_nil, or_false] at hq; rcases hq with rfl | rfl <;> first | exact (show (3 : Nat) ≠ 5 by decide) | exact (show (6 : Nat) ≠ 5 by decide)))
      clear hI hS hC hW hD
      go_wp2_with fail
      all_goals first | exact HS.out | exact ⟨rfl, HS.out⟩ | rfl
    · intro s D w' hD hW hC hI
      have hS := hI.below
      have HI := Lib.hid hI
      have HCl := Lib.hid hC
      have HD := Lib.hid hD
      have HC := Lib.hid ((by have hP3 : D 3 = true := need_waited hC hW (by kernel_rfl); have hq3 := hI.at (3, (fun v w => IsG w v f)) (by simp) hP3; exact (reached_any hq3 HGI.out HP.out).mono fun e w'' ⟨Z, h1, h2, h3, h4⟩ => (⟨_, h1, ⟨Z, rfl, h2, h3⟩, h4 ▸ Below.refl _ _⟩ : ∃ v, e = .returned v ∧ (∃ Z : Nat, v = .int .u32 (Z : Int) ∧ Z < 4294967296 ∧ ∀ p, 0 ≤ p → bitS Z p = reachS f fr p) ∧ Below w'.heap.size w' w'') : Calls Try.prog 31 #[s 3, .int .u8 fr] w' fun e w'' => ∃ v, e = .returned v ∧ (∃ Z : Nat, v = .int .u32 (Z : Int) ∧ Z < 4294967296 ∧ ∀ p, 0 ≤ p → bitS Z p = reachS f fr p) ∧ Below w'.heap.size w' w''))
      refine .inr ?_
      with_reducible refine OpGets.plain ?_ ?_
      exact rfl
      clear hI hS hC hW hD
      go_wp2_with fail
      refine HC.out.mono ?_
      rintro e w'' ⟨v, rfl, hv, hb2⟩
      refine ⟨v, rfl, updV s 6 v, vals_put _ (fun s : Nat → Value => [(.pointer (some ⟨G, 0, none⟩)), (.pointer (some ⟨X, 2, none⟩)), (.int .u8 cu), s 3, (.pointer (some ⟨X, 0, none⟩)), (.int .u8 fr), s 6, s 6]) s 6 v HCl.out HD.out ?_, rfl, HI.out.put HLS.out hb2 ?_⟩
      · intro j hj
        match j, hj with
        | 0, _ => exact .inr rfl
        | 1, _ => exact .inr rfl
        | 2, _ => exact .inr rfl
        | 3, _ => exact .inr rfl
        | 4, _ => exact .inr rfl
        | 5, _ => exact .inr rfl
        | 6, _ => exact .inl (.inl rfl)
        | 7, _ => exact .inl (.inr (by kernel_rfl))
        | j + 8, _ => exact .inr rfl
      · intro q hq he
        simp only [List.mem_cons, List.not_mem_nil, or_false] at hq
        rcases hq with rfl | rfl <;> first | exact hv | exact absurd (show (3 : Nat) = 6 from he) (by decide)
    · intro s D w' hD hW hC hI
      have hS := hI.below
      refine .inl ⟨s, fun _ _ _ => rfl, ?_⟩
      with_reducible refine OpTo.plain ?_ ?_
      exact rfl
      have HS := Lib.hid (hI.step HLS.out (Below.refl _ _) (k := 7) (by intro q hq; simp only [List.mem_cons, List.not_mem_nil, or_false] at hq; rcases hq with rfl | rfl <;> first | exact (show (3 : Nat) ≠ 7 by decide) | exact (show (6 : Nat) ≠ 7 by decide)))
      clear hI hS hC hW hD
      go_wp2_with fail
      all_goals first | exact HS.out | exact ⟨rfl, HS.out⟩ | rfl
  intro s D w2 hall hI
  exact HQ.out w2 (s 3) (s 6) (hI.at (6, (fun v _ => ∃ Z : Nat, v = .int .u32 (Z : Int) ∧ Z < 4294967296 ∧ ∀ p, 0 ≤ p → bitS Z p = reachS f fr p)) (by simp) (hall 6 (by decide))) hI.below
def MovedC (w : World) (G M G2 M2 X : Nat) (ps : List Int) (ls lt : List Ln) (xc : Array Value) (c : Value) (wr : World) : Prop :=
  ∃ q : Int, 1 ≤ q ∧ q ≤ 9 ∧ c = .int .u8 q ∧ LedM wr G M ps lt ∧ LedM wr G2 M2 ps ls ∧ Blk wr X xc 47 ∧ Below w.heap.size w wr
def MovedP (w : World) (G M G2 M2 X : Nat) (ps : List Int) (ls lt : List Ln) (xc : Array Value) (c : Value) (wr : World) : Prop :=
  ∃ q : Int, 1 ≤ q ∧ q ≤ 17 ∧ c = .int .u8 q ∧ LedM wr G M ps lt ∧ LedM wr G2 M2 ps ls ∧ Blk wr X xc 47 ∧ Below w.heap.size w wr
set_option maxHeartbeats 32000000 in
set_option maxRecDepth 100000 in
theorem pmoves_walk (HR : RouteProg) (HM : MostProg) (HL : Lives09) (a : Option Addr) (len cap : Nat) (xs : List Ac) (fr tt cu n : Int) (w : World) (h0 : ActsIn w a len cap xs) (ha : In8 fr) (hb : In8 tt) (hc : In8 cu) (hn : In64 n) :
    Calls Try.prog 6 #[.slice a len cap, .agg #[.int .u8 fr, .int .u8 tt, .int .u8 cu, .int .i64 n]] w fun e w' => e = .returned (.bool true) ∧ Below w.heap.size w w' := by
  have HA := Lib.hid h0
  have hcap := h0.2.2.1
  have hmax := h0.2.2.2.1
  unfold maxLen at hmax
  have HFr := Lib.hid ha
  have HTt := Lib.hid hb
  have HCu := Lib.hid hc
  have HN := Lib.hid hn
  have HRo := Lib.hid HR
  have HMo := Lib.hid HM
  have HLo := Lib.hid HL
  clear h0 ha hb hc hn HR HM HL
  by_cases hle : ¬ len ≤ 120
  · go_enter Try.func6, Try.ntmps6
    go_wp2_with fail
    have B0 := Lib.hid ((Below.refl w.heap.size w).alloc (Nat.le_refl _) (.cells #[.int .u8 fr, .int .u8 tt, .int .u8 cu, .int .i64 n] 47))
    refine (HLo.out _).mono ?_
    rintro e w1 ⟨rfl, b1⟩
    have B1 := Lib.hid (B0.out.trans (b1.mono B0.out.size))
    clear b1
    go_wp2_with fail
    go_ret
    exact ⟨rfl, B1.out⟩
  have hle := Decidable.not_not.1 hle
  go_enter Try.func6, Try.ntmps6
  go_wp2_with fail
  have X0 := Lib.hid (Blk.new w #[.int .u8 fr, .int .u8 tt, .int .u8 cu, .int .i64 n] 47)
  have B0 := Lib.hid ((Below.refl w.heap.size w).alloc (Nat.le_refl _) (.cells #[.int .u8 fr, .int .u8 tt, .int .u8 cu, .int .i64 n] 47))
  have HA0 := Lib.hid (HA.out.below ((Below.refl w.heap.size w).alloc (Nat.le_refl _) (.cells #[.int .u8 fr, .int .u8 tt, .int .u8 cu, .int .i64 n] 47)))
  have hz0 : (w.alloc (.cells #[.int .u8 fr, .int .u8 tt, .int .u8 cu, .int .i64 n] 47)).heap.size = w.heap.size + 1 := by simp
  generalize w.alloc (.cells #[.int .u8 fr, .int .u8 tt, .int .u8 cu, .int .i64 n] 47) = W0 at *
  refine (made_acts HA0.out hle).mono ?_
  rintro e w1 ⟨G, M, ps, ls, rfl, hL, hI, hG, hM, b1⟩
  rw [hz0] at hG hM
  have hGl := hL.blk.lt
  have hMl := hL.map.lt
  have hGM := hL.ne
  have I1 := Lib.hid hI
  have L1 := Lib.hid hL
  have X1 := Lib.hid (X0.out.below b1 X0.out.lt)
  have B1 := Lib.hid (B0.out.trans (b1.mono B0.out.size))
  clear hL hI b1 X0 B0 HA0 HA
  go_wp2_with fail
  refine (pcopy_any L1.out).mono ?_
  rintro e w2 ⟨G2, M2, rfl, hC2, hG2, hM2, b2⟩
  have B2 := Lib.hid (B1.out.trans (b2.mono B1.out.size))
  have X2 := Lib.hid (X1.out.below b2 X1.out.lt)
  have L2 := Lib.hid (L1.out.below b2)
  have C2 := Lib.hid hC2
  clear b2 hC2 L1 X1 B1
  obtain ⟨μ, hμ⟩ := route_ends (roomF_inv I1.out cu) fr tt mostW
  obtain ⟨σ, hσ⟩ := route_ends (roomF_inv I1.out cu) fr tt n
  have HMu := Lib.hid hμ
  have HSi := Lib.hid hσ
  obtain ⟨m, hm⟩ : ∃ m, mostW - μ.left = m := ⟨_, rfl⟩
  have HMm := Lib.hid hm
  clear hμ hσ hm
  have CM := Lib.hid (fun w (h : LedM w G M ps ls) => pmost9_any HMo.out h I1.out HFr.out HTt.out HCu.out HMu.out)
  rw [HMm.out] at CM
  have kx2 := X2.out.lt
  have x0_2 := X2.out.cell 0; have x1_2 := X2.out.cell 1; have x2_2 := X2.out.cell 2; have x3_2 := X2.out.cell 3
  simp at x0_2 x1_2 x2_2 x3_2
  go_wp2_with fail
  clear kx2 x0_2 x1_2 x2_2 x3_2
  refine (CM.out _ L2.out).mono ?_
  rintro e w3 ⟨rfl, b3⟩
  have L3 := Lib.hid (L2.out.below b3)
  have C3 := Lib.hid (C2.out.below b3)
  have X3 := Lib.hid (X2.out.below b3 X2.out.lt)
  have B3 := Lib.hid (B2.out.trans (b3.mono B2.out.size))
  clear b3
  have kx3 := X3.out.lt
  have x0_3 := X3.out.cell 0; have x1_3 := X3.out.cell 1; have x2_3 := X3.out.cell 2; have x3_3 := X3.out.cell 3
  simp at x0_3 x1_3 x2_3 x3_3
  go_wp2_with fail
  clear kx3 x0_3 x1_3 x2_3 x3_3
  clear CM
  refine (ppay_any HRo.out L3.out I1.out HFr.out HTt.out HCu.out HN.out HSi.out).mono ?_
  rintro e w4 ⟨rfl, hL4, k4⟩
  have L4 := Lib.hid hL4
  have C4 := Lib.hid (C3.out.keep k4 (by show ¬ G2 = M; omega) (by show ¬ M2 = M; omega))
  have X4 := Lib.hid (X3.out.keep k4 (by show ¬ w.heap.size = M; omega))
  have B4 := Lib.hid (B3.out.trans (k4.below B3.out.size (fun q hq e => by omega)))
  clear hL4 k4
  obtain ⟨got, hgot⟩ : ∃ got, n - σ.left = got := ⟨_, rfl⟩
  have HG := Lib.hid hgot
  have WC := wrong_cases (fun p => decide (p ∈ ps)) fr tt cu n got
  have EE : payE ps fr tt cu n σ = wrongE 1 (fun p => decide (p ∈ ps)) fr tt cu n got := by unfold payE; rw [hgot]
  rw [← EE] at WC
  clear EE hgot
  obtain ⟨er, her⟩ : ∃ er, payE ps fr tt cu n σ = er := ⟨_, rfl⟩
  have HER := Lib.hid her
  rw [her] at WC ⊢
  clear her
  by_cases h0 : er ≠ 0
  · skip
    have PN : Hid (payN ps fr tt cu n σ = 0 ∧ payL ps ls fr tt cu n σ = ls) := Lib.hid (by unfold payN payL; rw [HER.out, if_neg h0, if_neg h0]; exact ⟨rfl, rfl⟩)
    have LL := Lib.hid (show LedM _ G M ps ls from by have := L4.out; rwa [PN.out.2] at this)
    rw [PN.out.1]
    have q0 : (er == 0) = false := by simpa using h0
    clear L4
    have kx4 := X4.out.lt
    have x0_4 := X4.out.cell 0; have x1_4 := X4.out.cell 1; have x2_4 := X4.out.cell 2; have x3_4 := X4.out.cell 3
    simp at x0_4 x1_4 x2_4 x3_4
    go_wp2_with fail
    clear kx4 x0_4 x1_4 x2_4 x3_4
    refine (plines_any LL.out I1.out).mono ?_
    rintro e w5 ⟨v1, rfl, hv1, b5⟩
    have L5 := Lib.hid (LL.out.below b5)
    have C5 := Lib.hid (C4.out.below b5)
    have X5 := Lib.hid (X4.out.below b5 X4.out.lt)
    have B5 := Lib.hid (B4.out.trans (b5.mono B4.out.size))
    clear b5
    have V1 := Lib.hid hv1
    clear hv1
    have kx5 := X5.out.lt
    have x0_5 := X5.out.cell 0; have x1_5 := X5.out.cell 1; have x2_5 := X5.out.cell 2; have x3_5 := X5.out.cell 3
    simp at x0_5 x1_5 x2_5 x3_5
    go_wp2_with fail
    clear kx5 x0_5 x1_5 x2_5 x3_5
    refine (plines_any C5.out I1.out).mono ?_
    rintro e w6 ⟨v2, rfl, hv2, b6⟩
    have L6 := Lib.hid (L5.out.below b6)
    have C6 := Lib.hid (C5.out.below b6)
    have X6 := Lib.hid (X5.out.below b6 X5.out.lt)
    have B6 := Lib.hid (B5.out.trans (b6.mono B5.out.size))
    have V6 := Lib.hid (V1.out.below b6)
    clear b6
    have U1 := Lib.hid hv2
    clear hv2
    have SL := Lib.hid (SameLines_any (V6.out.reads (by have := I1.out.len; omega)) (U1.out.reads (by have := I1.out.len; omega)))
    rw [show decide (ls = ls) = true by simp] at SL
    have kx6 := X6.out.lt
    have x0_6 := X6.out.cell 0; have x1_6 := X6.out.cell 1; have x2_6 := X6.out.cell 2; have x3_6 := X6.out.cell 3
    simp at x0_6 x1_6 x2_6 x3_6
    go_wp2_with fail
    clear kx6 x0_6 x1_6 x2_6 x3_6
    refine (SL.out).mono ?_
    rintro e w7 ⟨rfl, b7⟩
    have L7 := Lib.hid (L6.out.below b7)
    have C7 := Lib.hid (C6.out.below b7)
    have X7 := Lib.hid (X6.out.below b7 X6.out.lt)
    have B7 := Lib.hid (B6.out.trans (b7.mono B6.out.size))
    clear b7
    clear SL
    by_cases h11 : er ≠ 11
    · skip
      have q11 : (er == 11) = false := by simpa using h11
      rcases WC with ⟨h1, _⟩ | ⟨h1, _, h2⟩ | ⟨h1, _⟩ | ⟨h1, _⟩
      · subst h1
        have kx7 := X7.out.lt
        have x0_7 := X7.out.cell 0; have x1_7 := X7.out.cell 1; have x2_7 := X7.out.cell 2; have x3_7 := X7.out.cell 3
        simp at x0_7 x1_7 x2_7 x3_7
        go_wp2_with fail
        clear kx7 x0_7 x1_7 x2_7 x3_7
        refine (HLo.out _).mono ?_
        rintro e w8 ⟨rfl, b8⟩
        have L8 := Lib.hid (L7.out.below b8)
        have C8 := Lib.hid (C7.out.below b8)
        have X8 := Lib.hid (X7.out.below b8 X7.out.lt)
        have B8 := Lib.hid (B7.out.trans (b8.mono B7.out.size))
        clear b8
        go_wp2_with fail
        go_ret
        exact ⟨rfl, B8.out⟩
      · subst h1
        have CF := Lib.hid (has_any C7.out.blk I1.out.bd fr)
        have CT := Lib.hid (has_any C7.out.blk I1.out.bd tt)
        by_cases hf : fr ∈ ps
        · skip
          have ht : tt ∉ ps := by rcases h2 with h2 | h2; exact absurd hf (by simpa using h2); simpa using h2
          rw [decide_eq_true hf] at CF
          rw [decide_eq_false ht] at CT
          clear hf ht h2
          have kx7 := X7.out.lt
          have x0_7 := X7.out.cell 0; have x1_7 := X7.out.cell 1; have x2_7 := X7.out.cell 2; have x3_7 := X7.out.cell 3
          simp at x0_7 x1_7 x2_7 x3_7
          go_wp2_with fail
          clear kx7 x0_7 x1_7 x2_7 x3_7
          refine (CF.out).mono ?_
          rintro e w8 ⟨rfl, rfl⟩
          have kx8 := X7.out.lt
          have x0_8 := X7.out.cell 0; have x1_8 := X7.out.cell 1; have x2_8 := X7.out.cell 2; have x3_8 := X7.out.cell 3
          simp at x0_8 x1_8 x2_8 x3_8
          go_wp2_with fail
          clear kx8 x0_8 x1_8 x2_8 x3_8
          refine (CT.out).mono ?_
          rintro e w9 ⟨rfl, rfl⟩
          have kx9 := X7.out.lt
          have x0_9 := X7.out.cell 0; have x1_9 := X7.out.cell 1; have x2_9 := X7.out.cell 2; have x3_9 := X7.out.cell 3
          simp at x0_9 x1_9 x2_9 x3_9
          go_wp2_with fail
          clear kx9 x0_9 x1_9 x2_9 x3_9
          refine (HLo.out _).mono ?_
          rintro e w10 ⟨rfl, b10⟩
          have L10 := Lib.hid (L7.out.below b10)
          have C10 := Lib.hid (C7.out.below b10)
          have X10 := Lib.hid (X7.out.below b10 X7.out.lt)
          have B10 := Lib.hid (B7.out.trans (b10.mono B7.out.size))
          clear b10
          go_wp2_with fail
          go_ret
          exact ⟨rfl, B10.out⟩
        · skip
          rw [decide_eq_false hf] at CF
          clear hf h2 CT
          have kx7 := X7.out.lt
          have x0_7 := X7.out.cell 0; have x1_7 := X7.out.cell 1; have x2_7 := X7.out.cell 2; have x3_7 := X7.out.cell 3
          simp at x0_7 x1_7 x2_7 x3_7
          go_wp2_with fail
          clear kx7 x0_7 x1_7 x2_7 x3_7
          refine (CF.out).mono ?_
          rintro e w8 ⟨rfl, rfl⟩
          have kx8 := X7.out.lt
          have x0_8 := X7.out.cell 0; have x1_8 := X7.out.cell 1; have x2_8 := X7.out.cell 2; have x3_8 := X7.out.cell 3
          simp at x0_8 x1_8 x2_8 x3_8
          go_wp2_with fail
          clear kx8 x0_8 x1_8 x2_8 x3_8
          refine (HLo.out _).mono ?_
          rintro e w9 ⟨rfl, b9⟩
          have L9 := Lib.hid (L7.out.below b9)
          have C9 := Lib.hid (C7.out.below b9)
          have X9 := Lib.hid (X7.out.below b9 X7.out.lt)
          have B9 := Lib.hid (B7.out.trans (b9.mono B7.out.size))
          clear b9
          go_wp2_with fail
          go_ret
          exact ⟨rfl, B9.out⟩
      · exact absurd h1 h11
      · exact absurd h1 h0
    have h11 := Decidable.not_not.1 h11
    subst h11
    obtain ⟨hmay, hf, ht, hlt⟩ : payMay fr tt cu n ∧ fr ∈ ps ∧ tt ∈ ps ∧ got < n := by
      rcases WC with ⟨h1, _⟩ | ⟨h1, _⟩ | ⟨_, h1, h2, h3, h4⟩ | ⟨h1, _⟩
      · exact absurd h1 (by decide)
      · exact absurd h1 (by decide)
      · exact ⟨h1, by simpa using h2, by simpa using h3, h4⟩
      · exact absurd h1 (by decide)
    obtain ⟨p1, p2, p3, p4, p5, p6, p7⟩ := hmay
    have MIN := route_min HSi.out HMu.out (roomF_inv I1.out cu) p1 p2 p3 p6
    rw [HG.out, HMm.out] at MIN
    have MB := most_bd HMu.out (roomF_inv I1.out cu) p3
    rw [HMm.out] at MB
    have hmn : m < n := by omega
    obtain ⟨m0, m1⟩ := MB
    have qa : decide (n ≤ m) = false := by simp; omega
    have qb : decide (m < 0) = false := by simp; omega
    have PP := Lib.hid p1
    have ht0 := p2.1
    have ht1 := p2.2
    obtain ⟨ρ, hρ⟩ := route_ends (roomF_inv I1.out cu) fr tt m
    have HRh := Lib.hid hρ
    clear WC q0 h0 MIN
    by_cases hm0 : 0 < m
    · skip
      have qc : decide (0 < m) = true := by simpa using hm0
      have MR := route_min HRh.out HMu.out (roomF_inv I1.out cu) p1 p2 p3 (by omega)
      rw [HMm.out, Int.min_self] at MR
      have RZ0 := most_done (roomF_inv I1.out cu) p1 p2 p3 HMu.out HMm.out HRh.out MR
      have PE : payE ps fr tt cu m ρ = 0 := by
        rcases wrong_cases (fun p => decide (p ∈ ps)) fr tt cu m (m - ρ.left) with ⟨_, h1⟩ | ⟨_, _, h2⟩ | ⟨_, _, _, _, h3⟩ | ⟨h1, _⟩
        · exact absurd ⟨p1, p2, p3, p4, p5, by omega, by omega⟩ h1
        · rcases h2 with h2 | h2
          · exact absurd hf (by simpa using h2)
          · exact absurd ht (by simpa using h2)
        · omega
        · exact h1
      have PL : payL ps ls fr tt cu m ρ = pushAll ps cu ls ρ.out := by unfold payL; rw [if_pos PE]
      have IT := Lib.hid (pushAll_inv (ps := ps) (c := cu) ρ.out I1.out)
      have HF : Hid (roomF ps (pushAll ps cu ls ρ.out) cu = ρ.f) := Lib.hid (by rw [pushAll_room ρ.out I1.out HRh.out.good.1, HRh.out.good.2])
      have RZ := Lib.hid RZ0
      have HM64 : In64 m := ⟨by omega, by omega⟩
      have PY := Lib.hid (fun w (h : LedM w G M ps ls) => ppay_any HRo.out h I1.out HFr.out HTt.out HCu.out HM64 HRh.out)
      rw [PE, PL] at PY
      generalize pushAll ps cu ls ρ.out = lt at *
      clear RZ0 PE PL HM64 MR hf ht
      have kx7 := X7.out.lt
      have x0_7 := X7.out.cell 0; have x1_7 := X7.out.cell 1; have x2_7 := X7.out.cell 2; have x3_7 := X7.out.cell 3
      simp at x0_7 x1_7 x2_7 x3_7
      go_wp2_with fail
      clear kx7 x0_7 x1_7 x2_7 x3_7
      refine (PY.out _ L7.out).mono ?_
      rintro e w8 ⟨rfl, hL8, k8⟩
      have L8 := Lib.hid hL8
      have C8 := Lib.hid (C7.out.keep k8 (by show ¬ G2 = M; omega) (by show ¬ M2 = M; omega))
      have X8 := Lib.hid (X7.out.keep k8 (by show ¬ w.heap.size = M; omega))
      have B8 := Lib.hid (B7.out.trans (k8.below B7.out.size (fun q hq e => by omega)))
      clear hL8 k8
      clear PY
      have HGI : Hid (GInv ρ.f 4398046511104) := Lib.hid (HF.out ▸ roomF_inv IT.out cu)
      have kx8 := X8.out.lt
      have x0_8 := X8.out.cell 0; have x1_8 := X8.out.cell 1; have x2_8 := X8.out.cell 2; have x3_8 := X8.out.cell 3
      simp at x0_8 x1_8 x2_8 x3_8
      go_wp2_with fail
      clear kx8 x0_8 x1_8 x2_8 x3_8
      refine pmoves_r18 L8 IT HCu HF HGI PP X8 ?_
      rintro w9 v3 v6 ⟨Z, rfl, hZ, hZs⟩ b9
      have L9 := Lib.hid (L8.out.below b9)
      have C9 := Lib.hid (C8.out.below b9)
      have X9 := Lib.hid (X8.out.below b9 X8.out.lt)
      have B9 := Lib.hid (B8.out.trans (b9.mono B8.out.size))
      clear b9
      have bt := bit_at hZ tt
      rw [hZs tt (by omega), RZ.out.1, if_neg (by decide)] at bt
      have HZ := Lib.hid hZ
      have HZs := Lib.hid hZs
      have hz0 : (0 : Int) ≤ (Z : Int) := by omega
      have hz1 : (Z : Int) < 4294967296 := by omega
      clear hZ hZs
      have kx9 := X9.out.lt
      have x0_9 := X9.out.cell 0; have x1_9 := X9.out.cell 1; have x2_9 := X9.out.cell 2; have x3_9 := X9.out.cell 3
      simp at x0_9 x1_9 x2_9 x3_9
      go_wp2_with fail
      clear kx9 x0_9 x1_9 x2_9 x3_9
      refine (gof_led C9.out I1.out HCu.out).mono ?_
      rintro e w10 ⟨rfl, kg, b10⟩
      have CC := Lib.hid (cut_any (most := m) (IsG.of kg) (roomF_inv I1.out cu) HZ.out)
      rw [outS_congr _ (S := bitS Z) (T := reachS ρ.f fr) HZs.out, decide_eq_true RZ.out.2] at CC
      clear kg
      have L10 := Lib.hid (L9.out.below b10)
      have C10 := Lib.hid (C9.out.below b10)
      have X10 := Lib.hid (X9.out.below b10 X9.out.lt)
      have B10 := Lib.hid (B9.out.trans (b10.mono B9.out.size))
      clear b10
      have kx10 := X10.out.lt
      have x0_10 := X10.out.cell 0; have x1_10 := X10.out.cell 1; have x2_10 := X10.out.cell 2; have x3_10 := X10.out.cell 3
      simp at x0_10 x1_10 x2_10 x3_10
      go_wp2_with fail
      clear kx10 x0_10 x1_10 x2_10 x3_10
      refine (CC.out).mono ?_
      rintro e w11 ⟨rfl, rfl⟩
      go_wp2_with fail
      refine (HLo.out _).mono ?_
      rintro e w12 ⟨rfl, b12⟩
      have L12 := Lib.hid (L10.out.below b12)
      have C12 := Lib.hid (C10.out.below b12)
      have X12 := Lib.hid (X10.out.below b12 X10.out.lt)
      have B12 := Lib.hid (B10.out.trans (b12.mono B10.out.size))
      clear b12
      go_wp2_with fail
      go_ret
      exact ⟨rfl, B12.out⟩
    · skip
      have qc : decide (0 < m) = false := by simpa using hm0
      have hmz : m = 0 := by omega
      have RV := HRh.out.void (roomF_inv I1.out cu) (by omega)
      have RZ0 := most_done (roomF_inv I1.out cu) p1 p2 p3 HMu.out HMm.out HRh.out (by rw [RV]; show m - m = m; omega)
      have HF : Hid (roomF ps ls cu = ρ.f) := Lib.hid (by rw [RV])
      have RZ := Lib.hid RZ0
      have IT := Lib.hid I1.out
      clear RZ0 RV hf ht hmz
      have HGI : Hid (GInv ρ.f 4398046511104) := Lib.hid (HF.out ▸ roomF_inv IT.out cu)
      have kx7 := X7.out.lt
      have x0_7 := X7.out.cell 0; have x1_7 := X7.out.cell 1; have x2_7 := X7.out.cell 2; have x3_7 := X7.out.cell 3
      simp at x0_7 x1_7 x2_7 x3_7
      go_wp2_with fail
      clear kx7 x0_7 x1_7 x2_7 x3_7
      refine pmoves_r18 L7 IT HCu HF HGI PP X7 ?_
      rintro w8 v3 v6 ⟨Z, rfl, hZ, hZs⟩ b8
      have L8 := Lib.hid (L7.out.below b8)
      have C8 := Lib.hid (C7.out.below b8)
      have X8 := Lib.hid (X7.out.below b8 X7.out.lt)
      have B8 := Lib.hid (B7.out.trans (b8.mono B7.out.size))
      clear b8
      have bt := bit_at hZ tt
      rw [hZs tt (by omega), RZ.out.1, if_neg (by decide)] at bt
      have HZ := Lib.hid hZ
      have HZs := Lib.hid hZs
      have hz0 : (0 : Int) ≤ (Z : Int) := by omega
      have hz1 : (Z : Int) < 4294967296 := by omega
      clear hZ hZs
      have kx8 := X8.out.lt
      have x0_8 := X8.out.cell 0; have x1_8 := X8.out.cell 1; have x2_8 := X8.out.cell 2; have x3_8 := X8.out.cell 3
      simp at x0_8 x1_8 x2_8 x3_8
      go_wp2_with fail
      clear kx8 x0_8 x1_8 x2_8 x3_8
      refine (gof_led C8.out I1.out HCu.out).mono ?_
      rintro e w9 ⟨rfl, kg, b9⟩
      have CC := Lib.hid (cut_any (most := m) (IsG.of kg) (roomF_inv I1.out cu) HZ.out)
      rw [outS_congr _ (S := bitS Z) (T := reachS ρ.f fr) HZs.out, decide_eq_true RZ.out.2] at CC
      clear kg
      have L9 := Lib.hid (L8.out.below b9)
      have C9 := Lib.hid (C8.out.below b9)
      have X9 := Lib.hid (X8.out.below b9 X8.out.lt)
      have B9 := Lib.hid (B8.out.trans (b9.mono B8.out.size))
      clear b9
      have kx9 := X9.out.lt
      have x0_9 := X9.out.cell 0; have x1_9 := X9.out.cell 1; have x2_9 := X9.out.cell 2; have x3_9 := X9.out.cell 3
      simp at x0_9 x1_9 x2_9 x3_9
      go_wp2_with fail
      clear kx9 x0_9 x1_9 x2_9 x3_9
      refine (CC.out).mono ?_
      rintro e w10 ⟨rfl, rfl⟩
      go_wp2_with fail
      refine (HLo.out _).mono ?_
      rintro e w11 ⟨rfl, b11⟩
      have L11 := Lib.hid (L9.out.below b11)
      have C11 := Lib.hid (C9.out.below b11)
      have X11 := Lib.hid (X9.out.below b11 X9.out.lt)
      have B11 := Lib.hid (B9.out.trans (b11.mono B9.out.size))
      clear b11
      go_wp2_with fail
      go_ret
      exact ⟨rfl, B11.out⟩
  have h0 := Decidable.not_not.1 h0
  subst h0
  obtain ⟨hmay, hf, ht, hge⟩ : payMay fr tt cu n ∧ fr ∈ ps ∧ tt ∈ ps ∧ ¬ got < n := by
    rcases WC with ⟨h1, _⟩ | ⟨h1, _⟩ | ⟨h1, _⟩ | ⟨_, h1, h2, h3, h4⟩
    · exact absurd h1 (by decide)
    · exact absurd h1 (by decide)
    · exact absurd h1 (by decide)
    · exact ⟨h1, by simpa using h2, by simpa using h3, h4⟩
  obtain ⟨p1, p2, p3, p4, p5, p6, p7⟩ := hmay
  have MIN := route_min HSi.out HMu.out (roomF_inv I1.out cu) p1 p2 p3 p6
  rw [HG.out, HMm.out] at MIN
  have hgn : got = n := by omega
  have hmn : n ≤ m := by omega
  have MB := (most_bd HMu.out (roomF_inv I1.out cu) p3).2
  rw [HMm.out] at MB
  have NET := Lib.hid (fun p => HSi.out.net p)
  rw [HG.out, hgn] at NET
  have PN : Hid (payN ps fr tt cu n σ = (σ.out.length : Int) ∧ payL ps ls fr tt cu n σ = pushAll ps cu ls σ.out) := Lib.hid (by unfold payN payL; rw [if_pos HER.out, if_pos HER.out]; exact ⟨rfl, rfl⟩)
  have hlen := HSi.out.len
  have h1len : 1 ≤ σ.out.length := by
    rcases Nat.eq_zero_or_pos σ.out.length with h | h
    · have h2 := NET.out tt
      rw [List.length_eq_zero_iff.1 h] at h2
      rw [if_pos rfl, if_neg p3] at h2
      have h3 : (0 : Int) = n - 0 := h2
      omega
    · exact h
  have IT := Lib.hid (pushAll_inv (ps := ps) (c := cu) σ.out I1.out)
  have LI := Lib.hid (pushAll_lims (ps := ps) (c := cu) σ.out I1.out)
  have POS : Hid (∀ p d, posL (pushAll ps cu ls σ.out) p d = posL ls p d + (if d = cu then (if tt = p then n else 0) - (if fr = p then n else 0) else 0)) := Lib.hid (fun p d => by rw [pushAll_pos p σ.out I1.out HSi.out.good.1 d, NET.out p])
  have LT := Lib.hid (show LedM _ G M ps (pushAll ps cu ls σ.out) from by have := L4.out; rwa [PN.out.2] at this)
  rw [PN.out.1]
  generalize pushAll ps cu ls σ.out = lt at *
  obtain ⟨np, hnp⟩ : ∃ np, σ.out.length = np := ⟨_, rfl⟩
  rw [hnp] at h1len hlen ⊢
  have qa : decide (m < n) = false := by simp; omega
  have qb : decide (n < 1) = false := by simp; omega
  have qc : decide ((np : Int) < 1) = false := by simp; omega
  have hft := Lib.hid p3
  clear L4 WC MIN NET PN hnp p3 p1 p2 p4 p5 hf ht hge hgn hmn
  have kx4 := X4.out.lt
  have x0_4 := X4.out.cell 0; have x1_4 := X4.out.cell 1; have x2_4 := X4.out.cell 2; have x3_4 := X4.out.cell 3
  simp at x0_4 x1_4 x2_4 x3_4
  go_wp2_with fail
  clear kx4 x0_4 x1_4 x2_4 x3_4
  refine (sound_any LT.out IT.out C4.out I1.out LI.out).mono ?_
  rintro e w5 ⟨rfl, b5⟩
  have L5 := Lib.hid (LT.out.below b5)
  have C5 := Lib.hid (C4.out.below b5)
  have X5 := Lib.hid (X4.out.below b5 X4.out.lt)
  have B5 := Lib.hid (B4.out.trans (b5.mono B4.out.size))
  clear b5
  have kx5 := X5.out.lt
  have x0_5 := X5.out.cell 0; have x1_5 := X5.out.cell 1; have x2_5 := X5.out.cell 2; have x3_5 := X5.out.cell 3
  simp at x0_5 x1_5 x2_5 x3_5
  go_wp2_with fail
  clear kx5 x0_5 x1_5 x2_5 x3_5
  go_loopw [13, 14, 15] (fun c _ _ wr => MovedC w G M G2 M2 w.heap.size ps ls lt #[.int .u8 fr, .int .u8 tt, .int .u8 cu, .int .i64 n] c wr) (fun c _ _ _ => 9 - (intOf c).toNat)
  case atStart => exact ⟨1, by omega, by omega, rfl, L5.out, C5.out, X5.out, B5.out⟩
  case round =>
    clear L5 C5 X5 B5
    obtain ⟨q, q1, q2, rfl, hL, hC, hX, hB⟩ := hrel
    have LR := Lib.hid hL
    have CR := Lib.hid hC
    have XR := Lib.hid hX
    have BR := Lib.hid hB
    clear hL hC hX hB
    by_cases hq : q ≤ 8
    · skip
      go_wp2_with fail
      go_loopw [14, 15] (fun p _ wr => MovedP w G M G2 M2 w.heap.size ps ls lt #[.int .u8 fr, .int .u8 tt, .int .u8 cu, .int .i64 n] p wr) (fun p _ _ => 17 - (intOf p).toNat)
      case atStart => exact ⟨1, by omega, by omega, rfl, LR.out, CR.out, XR.out, BR.out⟩
      case round =>
        clear LR CR XR BR
        obtain ⟨p, p1, p2, rfl, hL, hC, hX, hB⟩ := hrel
        have LR := Lib.hid hL
        have CR := Lib.hid hC
        have XR := Lib.hid hX
        have BR := Lib.hid hB
        clear hL hC hX hB
        by_cases hp : p ≤ 16
        · skip
          have MV := Lib.hid (fun by' (n1 : -1099511627776 ≤ by') (n2 : by' ≤ 1099511627776) => moved_any LR.out IT.out CR.out I1.out p q n1 n2)
          have PS := Lib.hid (POS.out p q)
          have hcase : (q ≠ cu) ∨ (q = cu ∧ p = fr ∧ p ≠ tt) ∨ (q = cu ∧ p ≠ fr ∧ p = tt) ∨ (q = cu ∧ p ≠ fr ∧ p ≠ tt) := by have := hft.out; omega
          rcases hcase with hd | ⟨hd, hf, ht⟩ | ⟨hd, hf, ht⟩ | ⟨hd, hf, ht⟩
          · skip
            have PB : posL lt p q = posL ls p q + 0 := by rw [PS.out, if_neg hd]
            have s1 : (q == cu) = false := by simpa using hd
            clear hd
            have MM := Lib.hid (MV.out (0) (by omega) (by omega))
            rw [decide_eq_true PB] at MM
            clear PB MV PS
            have kx30 := XR.out.lt
            have x0_30 := XR.out.cell 0; have x1_30 := XR.out.cell 1; have x2_30 := XR.out.cell 2; have x3_30 := XR.out.cell 3
            simp at x0_30 x1_30 x2_30 x3_30
            go_wp2_with fail
            clear kx30 x0_30 x1_30 x2_30 x3_30
            refine (MM.out).mono ?_
            rintro e w31 ⟨rfl, b31⟩
            have L31 := Lib.hid (LR.out.below b31)
            have C31 := Lib.hid (CR.out.below b31)
            have X31 := Lib.hid (XR.out.below b31 XR.out.lt)
            have B31 := Lib.hid (BR.out.trans (b31.mono BR.out.size))
            clear b31
            clear MM
            have kx31 := X31.out.lt
            have x0_31 := X31.out.cell 0; have x1_31 := X31.out.cell 1; have x2_31 := X31.out.cell 2; have x3_31 := X31.out.cell 3
            simp at x0_31 x1_31 x2_31 x3_31
            go_wp2_with fail
            clear kx31 x0_31 x1_31 x2_31 x3_31
            exact ⟨⟨p + 1, by omega, by omega, by go_num, L31.out, C31.out, X31.out, B31.out⟩, by simp [intOf]; omega⟩
          · skip
            have PB : posL lt p q = posL ls p q + -n := by rw [PS.out, if_pos hd, if_neg (fun e => ht e.symm), if_pos hf.symm]; omega
            have s1 : (q == cu) = true := by simpa using hd
            have s2 : (p == fr) = true := by simpa using hf
            have s3 : (p == tt) = false := by simpa using ht
            clear hd hf ht
            have MM := Lib.hid (MV.out (-n) (by omega) (by omega))
            rw [decide_eq_true PB] at MM
            clear PB MV PS
            have kx30 := XR.out.lt
            have x0_30 := XR.out.cell 0; have x1_30 := XR.out.cell 1; have x2_30 := XR.out.cell 2; have x3_30 := XR.out.cell 3
            simp at x0_30 x1_30 x2_30 x3_30
            go_wp2_with fail
            clear kx30 x0_30 x1_30 x2_30 x3_30
            refine (MM.out).mono ?_
            rintro e w31 ⟨rfl, b31⟩
            have L31 := Lib.hid (LR.out.below b31)
            have C31 := Lib.hid (CR.out.below b31)
            have X31 := Lib.hid (XR.out.below b31 XR.out.lt)
            have B31 := Lib.hid (BR.out.trans (b31.mono BR.out.size))
            clear b31
            clear MM
            have kx31 := X31.out.lt
            have x0_31 := X31.out.cell 0; have x1_31 := X31.out.cell 1; have x2_31 := X31.out.cell 2; have x3_31 := X31.out.cell 3
            simp at x0_31 x1_31 x2_31 x3_31
            go_wp2_with fail
            clear kx31 x0_31 x1_31 x2_31 x3_31
            exact ⟨⟨p + 1, by omega, by omega, by go_num, L31.out, C31.out, X31.out, B31.out⟩, by simp [intOf]; omega⟩
          · skip
            have PB : posL lt p q = posL ls p q + n := by rw [PS.out, if_pos hd, if_pos ht.symm, if_neg (fun e => hf e.symm)]; omega
            have s1 : (q == cu) = true := by simpa using hd
            have s2 : (p == fr) = false := by simpa using hf
            have s3 : (p == tt) = true := by simpa using ht
            clear hd hf ht
            have MM := Lib.hid (MV.out (n) (by omega) (by omega))
            rw [decide_eq_true PB] at MM
            clear PB MV PS
            have kx30 := XR.out.lt
            have x0_30 := XR.out.cell 0; have x1_30 := XR.out.cell 1; have x2_30 := XR.out.cell 2; have x3_30 := XR.out.cell 3
            simp at x0_30 x1_30 x2_30 x3_30
            go_wp2_with fail
            clear kx30 x0_30 x1_30 x2_30 x3_30
            refine (MM.out).mono ?_
            rintro e w31 ⟨rfl, b31⟩
            have L31 := Lib.hid (LR.out.below b31)
            have C31 := Lib.hid (CR.out.below b31)
            have X31 := Lib.hid (XR.out.below b31 XR.out.lt)
            have B31 := Lib.hid (BR.out.trans (b31.mono BR.out.size))
            clear b31
            clear MM
            have kx31 := X31.out.lt
            have x0_31 := X31.out.cell 0; have x1_31 := X31.out.cell 1; have x2_31 := X31.out.cell 2; have x3_31 := X31.out.cell 3
            simp at x0_31 x1_31 x2_31 x3_31
            go_wp2_with fail
            clear kx31 x0_31 x1_31 x2_31 x3_31
            exact ⟨⟨p + 1, by omega, by omega, by go_num, L31.out, C31.out, X31.out, B31.out⟩, by simp [intOf]; omega⟩
          · skip
            have PB : posL lt p q = posL ls p q + 0 := by rw [PS.out, if_pos hd, if_neg (fun e => ht e.symm), if_neg (fun e => hf e.symm)]; omega
            have s1 : (q == cu) = true := by simpa using hd
            have s2 : (p == fr) = false := by simpa using hf
            have s3 : (p == tt) = false := by simpa using ht
            clear hd hf ht
            have MM := Lib.hid (MV.out (0) (by omega) (by omega))
            rw [decide_eq_true PB] at MM
            clear PB MV PS
            have kx30 := XR.out.lt
            have x0_30 := XR.out.cell 0; have x1_30 := XR.out.cell 1; have x2_30 := XR.out.cell 2; have x3_30 := XR.out.cell 3
            simp at x0_30 x1_30 x2_30 x3_30
            go_wp2_with fail
            clear kx30 x0_30 x1_30 x2_30 x3_30
            refine (MM.out).mono ?_
            rintro e w31 ⟨rfl, b31⟩
            have L31 := Lib.hid (LR.out.below b31)
            have C31 := Lib.hid (CR.out.below b31)
            have X31 := Lib.hid (XR.out.below b31 XR.out.lt)
            have B31 := Lib.hid (BR.out.trans (b31.mono BR.out.size))
            clear b31
            clear MM
            have kx31 := X31.out.lt
            have x0_31 := X31.out.cell 0; have x1_31 := X31.out.cell 1; have x2_31 := X31.out.cell 2; have x3_31 := X31.out.cell 3
            simp at x0_31 x1_31 x2_31 x3_31
            go_wp2_with fail
            clear kx31 x0_31 x1_31 x2_31 x3_31
            exact ⟨⟨p + 1, by omega, by omega, by go_num, L31.out, C31.out, X31.out, B31.out⟩, by simp [intOf]; omega⟩
        · have hp17 : p = 17 := by omega
          subst hp17
          go_wp2_with fail
          exact ⟨⟨q + 1, by omega, by omega, by go_num, LR.out, CR.out, XR.out, BR.out⟩, by simp [intOf]; omega⟩
    · have hq9 : q = 9 := by omega
      subst hq9
      go_wp2_with fail
      refine (HLo.out _).mono ?_
      rintro e w21 ⟨rfl, b21⟩
      have L21 := Lib.hid (LR.out.below b21)
      have C21 := Lib.hid (CR.out.below b21)
      have X21 := Lib.hid (XR.out.below b21 XR.out.lt)
      have B21 := Lib.hid (BR.out.trans (b21.mono BR.out.size))
      clear b21
      go_wp2_with fail
      go_ret
      exact ⟨rfl, B21.out⟩
theorem pmoves_frame (HR : RouteProg) (HM : MostProg) (HL : Lives09) (a : Option Addr) (len cap : Nat) (xs : List Ac) (fr tt cu n : Int) (w : World) (h0 : ActsIn w a len cap xs) (ha : (Lit.int .u8 fr).wf = true) (hb : (Lit.int .u8 tt).wf = true) (hc : (Lit.int .u8 cu).wf = true) (hn : (Lit.int .i64 n).wf = true) :
    Calls Try.prog 6 #[.slice a len cap, .agg #[.int .u8 fr, .int .u8 tt, .int .u8 cu, .int .i64 n]] w fun e w' => e = .returned (.bool true) ∧ Below w.heap.size w w' :=
  pmoves_walk HR HM HL a len cap xs fr tt cu n w h0 (In8.of_wf ha) (In8.of_wf hb) (In8.of_wf hc) (In64.of_wf hn)

end Go.Proofs.Ytajmladlmkkimaa
