/-
  GraphsPlay's last regions: copies and what is the same; pages that share nothing (written by gen_gplay5b.py).
-/
import Derived.Test.YtdpkcamhafkkbaaPlay05
import Derived.Test.YtdpkcamhafkkbaaPages
namespace Go.Proofs.Ytdpkcamhafkkbaa
open Go.RowKit
set_option linter.unusedSimpArgs false
set_option linter.unusedVariables false

/-- The same capacities, the same edges. -/
theorem same_all {f g : Int → Int → Int} {B : Int} (hf : GInv f B) (hg : GInv g B) : decide (allE f = allE g) = sameF f g := by
  by_cases h : allE f = allE g
  · rw [decide_eq_true h]
    refine (sameF_iff.2 fun p q _ _ => ?_).symm
    rw [← hf.cap, ← hg.cap, h]
  · rw [decide_eq_false h]
    cases hs : sameF f g with
    | false => rfl
    | true =>
      refine absurd (allE_congr fun p q hp hq => .inl ?_) h
      have := sameF_iff.1 hs p.toNat q.toNat (by have := hp.2; omega) (by have := hq.2; omega)
      rwa [Int.toNat_of_nonneg (by have := hp.1; omega), Int.toNat_of_nonneg (by have := hq.1; omega)] at this
set_option maxHeartbeats 16000000 in
set_option maxRecDepth 100000 in
theorem gplay_r22 {W : World} {b0 b1 g m c d : Nat} {f f0 : Int → Int → Int} {vl vd : Value} (KG : Hid (Blk W g (graC f true) 52)) (KC : Hid (Blk W c (graC f0 true) 52)) (KM : Hid (RefG W b0 m (allE f) vl)) (KD : Hid (RefG W b1 d (allE f0) vd)) (HG : Hid (GInv f 4398046511104)) (HG0 : Hid (GInv f0 4398046511104)) {Q : Exit → Act → World → Prop} {c0 c1 c2 c3 c4 c5 c7 c9 c10 c13 c14 c15 c16 c17 c18 c19 c20 c21 c22 c23 c24 c25 c26 c27 c28 c29 c30 c31 c32 c33 c34 c35 c36 c37 c38 c39 c40 c41 c42 c43 c44 c45 c46 c47 c48 c49 c50 c51 c52 c53 c54 c55 c56 c57 c58 c59 c60 c61 c62 c63 c64 c65 c66 c67 c68 c69 c70 c71 c72 c73 c74 c75 c76 c77 c78 c79 c80 c81 c82 c83 c84 c85 c86 c87 c88 c89 c90 c91 c92 c93 c94 c95 c96 c97 c98 c99 c100 c101 c102 c103 c104 c105 c106 c107 c108 c109 c110 c111 c112 c113 c114 c115 c116 c117 c118 c119 c120 c121 c122 c123 c124 c125 c126 c127 c128 c129 c130 c131 c132 c133 c134 c135 c136 c137 c138 c139 c140 c141 c142 c143 c144 c145 c146 c147 c148 c149 c150 c151 c152 c153 c154 c155 c156 c157 c158 c159 c160 c161 c162 c163 c164 c165 c166 c167 c168 c169 c170 c171 c172 c173 c174 c175 c176 c177 c178 c179 c180 c181 c182 c183 : Value}
    (hq : ∀ w6 v16 v22, Below W.heap.size W w6 → Q .normal ⟨#[c0, c1, c2, c3, c4, c5, (.pointer (some ⟨g, 0, none⟩)), c7, (.pointer (some ⟨m, 0, none⟩)), c9, c10, (.pointer (some ⟨c, 0, none⟩)), (.pointer (some ⟨d, 0, none⟩)), c13, c14, c15, c16, c17, c18, c19, c20, c21, c22, c23, c24, c25, c26, c27, c28, c29, c30, c31, c32, c33, c34, c35, c36, c37, c38, c39, c40, c41, c42, c43, c44, c45, c46, c47, c48, c49, c50, c51, c52, c53, c54, c55, c56, c57, c58, c59, c60, c61, c62, c63, c64, c65, c66, c67, c68, c69, c70, c71, c72, c73, c74, c75, c76, c77, c78, c79, c80, c81, c82, c83, c84, c85, c86, c87, c88, c89, c90, c91, c92, c93, c94, c95, c96, c97, c98, c99, c100, c101, c102, c103, c104, c105, c106, c107, c108, c109, c110, c111, c112, c113, c114, c115, c116, c117, c118, c119, c120, c121, c122, c123, c124, c125, c126, c127, c128, c129, c130, c131, c132, c133, (.pointer (some ⟨g, 0, none⟩)), (.pointer (some ⟨c, 0, none⟩)), (.bool (sameF f f0)), (.pointer (some ⟨m, 0, none⟩)), (.pointer (some ⟨m, 0, none⟩)), (.pointer (some ⟨m, 0, none⟩)), vl, (.pointer (some ⟨d, 0, none⟩)), (.pointer (some ⟨d, 0, none⟩)), (.pointer (some ⟨d, 0, none⟩)), vd, (.bool (sameF f f0)), (.bool false), (.bool false), (.pointer (some ⟨g, 0, none⟩)), (.pointer (some ⟨g, 0, none⟩)), v16, (.bool true), (.bool false), (.bool false), (.bool false), (.pointer (some ⟨c, 0, none⟩)), v22, (.pointer (some ⟨d, 0, none⟩)), (.pointer (some ⟨d, 0, none⟩)), (.pointer (some ⟨d, 0, none⟩)), vd, (.bool true), (.bool false), (.bool false), c164, c165, c166, c167, c168, c169, c170, c171, c172, c173, c174, c175, c176, c177, c178, c179, c180, c181, c182, c183], []⟩ w6) :
    Code.wp Try.prog (((Try.f3.body).bind (regionNo 22)).getD .skip) Q ⟨#[c0, c1, c2, c3, c4, c5, (.pointer (some ⟨g, 0, none⟩)), c7, (.pointer (some ⟨m, 0, none⟩)), c9, c10, (.pointer (some ⟨c, 0, none⟩)), (.pointer (some ⟨d, 0, none⟩)), c13, c14, c15, c16, c17, c18, c19, c20, c21, c22, c23, c24, c25, c26, c27, c28, c29, c30, c31, c32, c33, c34, c35, c36, c37, c38, c39, c40, c41, c42, c43, c44, c45, c46, c47, c48, c49, c50, c51, c52, c53, c54, c55, c56, c57, c58, c59, c60, c61, c62, c63, c64, c65, c66, c67, c68, c69, c70, c71, c72, c73, c74, c75, c76, c77, c78, c79, c80, c81, c82, c83, c84, c85, c86, c87, c88, c89, c90, c91, c92, c93, c94, c95, c96, c97, c98, c99, c100, c101, c102, c103, c104, c105, c106, c107, c108, c109, c110, c111, c112, c113, c114, c115, c116, c117, c118, c119, c120, c121, c122, c123, c124, c125, c126, c127, c128, c129, c130, c131, c132, c133, c134, c135, c136, c137, c138, c139, c140, c141, c142, c143, c144, c145, c146, c147, c148, c149, c150, c151, c152, c153, c154, c155, c156, c157, c158, c159, c160, c161, c162, c163, c164, c165, c166, c167, c168, c169, c170, c171, c172, c173, c174, c175, c176, c177, c178, c179, c180, c181, c182, c183], []⟩ W := by
  conv => arg 2; whnf
  have HQ := Lib.hid hq
  clear hq
  have HO0 := Lib.hid HG0.out.outF
  have E := Lib.hid (same_all HG.out HG0.out)
  have hlasts : ∀ q ∈ ([(16, (fun v w => IsG w v f)), (22, (fun v w => Rowed w W.heap.size 35 3 v (allE f0).length (fwCells (allE f0))))] : List (Nat × (Value → World → Prop))), Lasts q.2 := by
    intro q hq
    simp only [List.mem_cons, List.not_mem_nil, or_false] at hq
    rcases hq with rfl | rfl
    · exact fun v w w' h hb => IsG.below h hb
    · exact fun v w w' h hb => Rowed.below h hb
  have HL := Lib.hid hlasts
  clear hlasts
  refine region_fresh (by kernel_rfl) (fun s : Nat → Value => [(.pointer (some ⟨g, 0, none⟩)), (.pointer (some ⟨c, 0, none⟩)), (.bool (sameF f f0)), (.pointer (some ⟨m, 0, none⟩)), (.pointer (some ⟨m, 0, none⟩)), (.pointer (some ⟨m, 0, none⟩)), vl, (.pointer (some ⟨d, 0, none⟩)), (.pointer (some ⟨d, 0, none⟩)), (.pointer (some ⟨d, 0, none⟩)), vd, (.bool (sameF f f0)), (.bool false), (.bool false), (.pointer (some ⟨g, 0, none⟩)), (.pointer (some ⟨g, 0, none⟩)), s 16, (.bool true), (.bool false), (.bool false), (.bool false), (.pointer (some ⟨c, 0, none⟩)), s 22, (.pointer (some ⟨d, 0, none⟩)), (.pointer (some ⟨d, 0, none⟩)), (.pointer (some ⟨d, 0, none⟩)), vd, (.bool true), (.bool false), (.bool false)])
    (Got W [(16, (fun v w => IsG w v f)), (22, (fun v w => Rowed w W.heap.size 35 3 v (allE f0).length (fwCells (allE f0))))]) (by kernel_rfl) (fun _ => undef) (Got.start _ _ _) ?_
  intro AF hAF
  simp only [List.toList_toArray, puts, Act.put, List.getD_cons_zero, List.getD_cons_succ, List.setIfInBounds_toArray, List.set_cons_succ, List.set_cons_zero] at hAF
  have hAF2 : _ = AF := funext hAF
  subst hAF2
  clear hAF
  refine ⟨?_, ?_⟩
  · simp only [List.toList_toArray, EachF]
    refine ⟨?_, ?_, ?_, ?_, ?_, ?_, ?_, ?_, ?_, ?_, ?_, ?_, ?_, ?_, ?_, ?_, ?_, ?_, ?_, ?_, ?_, ?_, ?_, ?_, ?_, ?_, ?_, ?_, ?_, ?_, trivial⟩
    · intro s D w' hD hW hC hI
      have hS := hI.below
      refine .inl ⟨s, fun _ _ _ => rfl, ?_⟩
      with_reducible refine OpTo.plain ?_ ?_
      exact rfl
      have HS := Lib.hid (hI.step HL.out (Below.refl _ _) (k := 0) (by intro q hq; simp only [List.mem_cons, List.not_mem_nil, or_false] at hq; rcases hq with rfl | rfl <;> first | exact (show (16 : Nat) ≠ 0 by decide) | exact (show (22 : Nat) ≠ 0 by decide)))
      clear hI hS hC hW hD
      go_wp2_with fail
      all_goals first | exact HS.out | exact ⟨rfl, HS.out⟩ | rfl
    · intro s D w' hD hW hC hI
      have hS := hI.below
      refine .inl ⟨s, fun _ _ _ => rfl, ?_⟩
      with_reducible refine OpTo.plain ?_ ?_
      exact rfl
      have HS := Lib.hid (hI.step HL.out (Below.refl _ _) (k := 1) (by intro q hq; simp only [List.mem_cons, List.not_mem_nil, or_false] at hq; rcases hq with rfl | rfl <;> first | exact (show (16 : Nat) ≠ 1 by decide) | exact (show (22 : Nat) ≠ 1 by decide)))
      clear hI hS hC hW hD
      go_wp2_with fail
      all_goals first | exact HS.out | exact ⟨rfl, HS.out⟩ | rfl
    · intro s D w' hD hW hC hI
      have hS := hI.below
      refine .inl ⟨s, fun _ _ _ => rfl, ?_⟩
      with_reducible refine OpTo.plain ?_ ?_
      exact rfl
      have HI := Lib.hid hI
      have HC := Lib.hid (gsame_any (IsG.of (KG.out.below hS KG.out.lt)) (IsG.of (KC.out.below hS KC.out.lt)))
      clear hI hS hC hW hD
      go_wp2_with fail
      refine HC.out.mono ?_
      rintro e w'' ⟨rfl, hb2⟩
      exact ⟨rfl, HI.out.step HL.out hb2 (by intro q hq; simp only [List.mem_cons, List.not_mem_nil, or_false] at hq; rcases hq with rfl | rfl <;> first | exact (show (16 : Nat) ≠ 2 by decide) | exact (show (22 : Nat) ≠ 2 by decide))⟩
    · intro s D w' hD hW hC hI
      have hS := hI.below
      refine .inl ⟨s, fun _ _ _ => rfl, ?_⟩
      with_reducible refine OpTo.plain ?_ ?_
      exact rfl
      have HS := Lib.hid (hI.step HL.out (Below.refl _ _) (k := 3) (by intro q hq; simp only [List.mem_cons, List.not_mem_nil, or_false] at hq; rcases hq with rfl | rfl <;> first | exact (show (16 : Nat) ≠ 3 by decide) | exact (show (22 : Nat) ≠ 3 by decide)))
      clear hI hS hC hW hD
      go_wp2_with fail
      all_goals first | exact HS.out | exact ⟨rfl, HS.out⟩ | rfl
    · intro s D w' hD hW hC hI
      have hS := hI.below
      refine .inl ⟨s, fun _ _ _ => rfl, ?_⟩
      with_reducible refine OpTo.plain ?_ ?_
      exact rfl
      have km := (KM.out.below hS).blk
      have hml := km.lt
      have dm := km.cell 0
      simp at dm
      have HS := Lib.hid (hI.step HL.out (Below.refl _ _) (k := 4) (by intro q hq; simp only [List.mem_cons, List.not_mem_nil, or_false] at hq; rcases hq with rfl | rfl <;> first | exact (show (16 : Nat) ≠ 4 by decide) | exact (show (22 : Nat) ≠ 4 by decide)))
      clear hI hS hC hW hD
      go_wp2_with fail
      all_goals first | exact HS.out | exact ⟨rfl, HS.out⟩ | rfl
    · intro s D w' hD hW hC hI
      have hS := hI.below
      refine .inl ⟨s, fun _ _ _ => rfl, ?_⟩
      with_reducible refine OpTo.plain ?_ ?_
      exact rfl
      have km := (KM.out.below hS).blk
      have hml := km.lt
      have dm := km.cell 0
      simp at dm
      have HS := Lib.hid (hI.step HL.out (Below.refl _ _) (k := 5) (by intro q hq; simp only [List.mem_cons, List.not_mem_nil, or_false] at hq; rcases hq with rfl | rfl <;> first | exact (show (16 : Nat) ≠ 5 by decide) | exact (show (22 : Nat) ≠ 5 by decide)))
      clear hI hS hC hW hD
      go_wp2_with fail
      all_goals first | exact HS.out | exact ⟨rfl, HS.out⟩ | rfl
    · intro s D w' hD hW hC hI
      have hS := hI.below
      refine .inl ⟨s, fun _ _ _ => rfl, ?_⟩
      with_reducible refine OpTo.plain ?_ ?_
      exact rfl
      have km := (KM.out.below hS).blk
      have hml := km.lt
      have dm := km.cell 0
      simp at dm
      have HS := Lib.hid (hI.step HL.out (Below.refl _ _) (k := 6) (by intro q hq; simp only [List.mem_cons, List.not_mem_nil, or_false] at hq; rcases hq with rfl | rfl <;> first | exact (show (16 : Nat) ≠ 6 by decide) | exact (show (22 : Nat) ≠ 6 by decide)))
      clear hI hS hC hW hD
      go_wp2_with fail
      all_goals first | exact HS.out | exact ⟨rfl, HS.out⟩ | rfl
    · intro s D w' hD hW hC hI
      have hS := hI.below
      refine .inl ⟨s, fun _ _ _ => rfl, ?_⟩
      with_reducible refine OpTo.plain ?_ ?_
      exact rfl
      have HS := Lib.hid (hI.step HL.out (Below.refl _ _) (k := 7) (by intro q hq; simp only [List.mem_cons, List.not_mem_nil, or_false] at hq; rcases hq with rfl | rfl <;> first | exact (show (16 : Nat) ≠ 7 by decide) | exact (show (22 : Nat) ≠ 7 by decide)))
      clear hI hS hC hW hD
      go_wp2_with fail
      all_goals first | exact HS.out | exact ⟨rfl, HS.out⟩ | rfl
    · intro s D w' hD hW hC hI
      have hS := hI.below
      refine .inl ⟨s, fun _ _ _ => rfl, ?_⟩
      with_reducible refine OpTo.plain ?_ ?_
      exact rfl
      have kd := (KD.out.below hS).blk
      have hdl := kd.lt
      have dd := kd.cell 0
      simp at dd
      have HS := Lib.hid (hI.step HL.out (Below.refl _ _) (k := 8) (by intro q hq; simp only [List.mem_cons, List.not_mem_nil, or_false] at hq; rcases hq with rfl | rfl <;> first | exact (show (16 : Nat) ≠ 8 by decide) | exact (show (22 : Nat) ≠ 8 by decide)))
      clear hI hS hC hW hD
      go_wp2_with fail
      all_goals first | exact HS.out | exact ⟨rfl, HS.out⟩ | rfl
    · intro s D w' hD hW hC hI
      have hS := hI.below
      refine .inl ⟨s, fun _ _ _ => rfl, ?_⟩
      with_reducible refine OpTo.plain ?_ ?_
      exact rfl
      have kd := (KD.out.below hS).blk
      have hdl := kd.lt
      have dd := kd.cell 0
      simp at dd
      have HS := Lib.hid (hI.step HL.out (Below.refl _ _) (k := 9) (by intro q hq; simp only [List.mem_cons, List.not_mem_nil, or_false] at hq; rcases hq with rfl | rfl <;> first | exact (show (16 : Nat) ≠ 9 by decide) | exact (show (22 : Nat) ≠ 9 by decide)))
      clear hI hS hC hW hD
      go_wp2_with fail
      all_goals first | exact HS.out | exact ⟨rfl, HS.out⟩ | rfl
    · intro s D w' hD hW hC hI
      have hS := hI.below
      refine .inl ⟨s, fun _ _ _ => rfl, ?_⟩
      with_reducible refine OpTo.plain ?_ ?_
      exact rfl
      have kd := (KD.out.below hS).blk
      have hdl := kd.lt
      have dd := kd.cell 0
      simp at dd
      have HS := Lib.hid (hI.step HL.out (Below.refl _ _) (k := 10) (by intro q hq; simp only [List.mem_cons, List.not_mem_nil, or_false] at hq; rcases hq with rfl | rfl <;> first | exact (show (16 : Nat) ≠ 10 by decide) | exact (show (22 : Nat) ≠ 10 by decide)))
      clear hI hS hC hW hD
      go_wp2_with fail
      all_goals first | exact HS.out | exact ⟨rfl, HS.out⟩ | rfl
    · intro s D w' hD hW hC hI
      have hS := hI.below
      refine .inl ⟨s, fun _ _ _ => rfl, ?_⟩
      with_reducible refine OpTo.plain ?_ ?_
      exact rfl
      have HI := Lib.hid hI
      have HC := Lib.hid ((by have q := SameFlows_any (Reads.of_owns (KM.out.below hS).row (by have := prefE_len f 256; unfold allE; omega)) (Reads.of_owns (KD.out.below hS).row (by have := prefE_len f0 256; unfold allE; omega)); rw [E.out] at q; exact q : Calls Try.prog 18 #[vl, vd] w' fun e w'' => e = .returned (.bool (sameF f f0)) ∧ Below w'.heap.size w' w''))
      clear hI hS hC hW hD
      go_wp2_with fail
      refine HC.out.mono ?_
      rintro e w'' ⟨rfl, hb2⟩
      exact ⟨rfl, HI.out.step HL.out hb2 (by intro q hq; simp only [List.mem_cons, List.not_mem_nil, or_false] at hq; rcases hq with rfl | rfl <;> first | exact (show (16 : Nat) ≠ 11 by decide) | exact (show (22 : Nat) ≠ 11 by decide))⟩
    · intro s D w' hD hW hC hI
      have hS := hI.below
      refine .inl ⟨s, fun _ _ _ => rfl, ?_⟩
      with_reducible refine OpTo.plain ?_ ?_
      exact rfl
      have HS := Lib.hid (hI.step HL.out (Below.refl _ _) (k := 12) (by intro q hq; simp only [List.mem_cons, List.not_mem_nil, or_false] at hq; rcases hq with rfl | rfl <;> first | exact (show (16 : Nat) ≠ 12 by decide) | exact (show (22 : Nat) ≠ 12 by decide)))
      clear hI hS hC hW hD
      go_wp2_with fail
      all_goals first | exact HS.out | exact ⟨rfl, HS.out⟩ | rfl
    · intro s D w' hD hW hC hI
      have hS := hI.below
      refine .inl ⟨s, fun _ _ _ => rfl, ?_⟩
      with_reducible refine OpTo.plain ?_ ?_
      exact rfl
      have HS := Lib.hid (hI.step HL.out (Below.refl _ _) (k := 13) (by intro q hq; simp only [List.mem_cons, List.not_mem_nil, or_false] at hq; rcases hq with rfl | rfl <;> first | exact (show (16 : Nat) ≠ 13 by decide) | exact (show (22 : Nat) ≠ 13 by decide)))
      clear hI hS hC hW hD
      go_wp2_with fail
      all_goals first | exact HS.out | exact ⟨rfl, HS.out⟩ | rfl
    · intro s D w' hD hW hC hI
      have hS := hI.below
      refine .inl ⟨s, fun _ _ _ => rfl, ?_⟩
      with_reducible refine OpTo.wanted ?_ ?_
      kernel_rfl
      have HS := Lib.hid (hI.step HL.out (Below.refl _ _) (k := 14) (by intro q hq; simp only [List.mem_cons, List.not_mem_nil, or_false] at hq; rcases hq with rfl | rfl <;> first | exact (show (16 : Nat) ≠ 14 by decide) | exact (show (22 : Nat) ≠ 14 by decide)))
      clear hI hS hC hW hD
      go_wp2_with fail
      all_goals first | exact HS.out | exact ⟨rfl, HS.out⟩ | rfl
    · intro s D w' hD hW hC hI
      have hS := hI.below
      refine .inl ⟨s, fun _ _ _ => rfl, ?_⟩
      with_reducible refine OpTo.wanted ?_ ?_
      kernel_rfl
      have HS := Lib.hid (hI.step HL.out (Below.refl _ _) (k := 15) (by intro q hq; simp only [List.mem_cons, List.not_mem_nil, or_false] at hq; rcases hq with rfl | rfl <;> first | exact (show (16 : Nat) ≠ 15 by decide) | exact (show (22 : Nat) ≠ 15 by decide)))
      clear hI hS hC hW hD
      go_wp2_with fail
      all_goals first | exact HS.out | exact ⟨rfl, HS.out⟩ | rfl
    · intro s D w' hD hW hC hI
      have hS := hI.below
      have HI := Lib.hid hI
      have HCl := Lib.hid hC
      have HD := Lib.hid hD
      have HC := Lib.hid ((gcopy_any (KG.out.below hS KG.out.lt)).mono (fun e w'' h => (⟨_, h.1, IsG.of h.2.1, h.2.2⟩ : ∃ v, e = .returned v ∧ IsG w'' v f ∧ Below w'.heap.size w' w'')))
      refine .inr ?_
      with_reducible refine OpGets.wanted ?_ ?_
      kernel_rfl
      clear hI hS hC hW hD
      go_wp2_with fail
      refine HC.out.mono ?_
      rintro e w'' ⟨v, rfl, hv, hb2⟩
      refine ⟨v, rfl, updV s 16 v, vals_put _ (fun s : Nat → Value => [(.pointer (some ⟨g, 0, none⟩)), (.pointer (some ⟨c, 0, none⟩)), (.bool (sameF f f0)), (.pointer (some ⟨m, 0, none⟩)), (.pointer (some ⟨m, 0, none⟩)), (.pointer (some ⟨m, 0, none⟩)), vl, (.pointer (some ⟨d, 0, none⟩)), (.pointer (some ⟨d, 0, none⟩)), (.pointer (some ⟨d, 0, none⟩)), vd, (.bool (sameF f f0)), (.bool false), (.bool false), (.pointer (some ⟨g, 0, none⟩)), (.pointer (some ⟨g, 0, none⟩)), s 16, (.bool true), (.bool false), (.bool false), (.bool false), (.pointer (some ⟨c, 0, none⟩)), s 22, (.pointer (some ⟨d, 0, none⟩)), (.pointer (some ⟨d, 0, none⟩)), (.pointer (some ⟨d, 0, none⟩)), vd, (.bool true), (.bool false), (.bool false)]) s 16 v HCl.out HD.out ?_, rfl, HI.out.put HL.out hb2 ?_⟩
      · intro j hj
        match j, hj with
        | 0, _ => exact .inr rfl
        | 1, _ => exact .inr rfl
        | 2, _ => exact .inr rfl
        | 3, _ => exact .inr rfl
        | 4, _ => exact .inr rfl
        | 5, _ => exact .inr rfl
        | 6, _ => exact .inr rfl
        | 7, _ => exact .inr rfl
        | 8, _ => exact .inr rfl
        | 9, _ => exact .inr rfl
        | 10, _ => exact .inr rfl
        | 11, _ => exact .inr rfl
        | 12, _ => exact .inr rfl
        | 13, _ => exact .inr rfl
        | 14, _ => exact .inr rfl
        | 15, _ => exact .inr rfl
        | 16, _ => exact .inl (.inl rfl)
        | 17, _ => exact .inr rfl
        | 18, _ => exact .inr rfl
        | 19, _ => exact .inr rfl
        | 20, _ => exact .inr rfl
        | 21, _ => exact .inr rfl
        | 22, _ => exact .inr rfl
        | 23, _ => exact .inr rfl
        | 24, _ => exact .inr rfl
        | 25, _ => exact .inr rfl
        | 26, _ => exact .inr rfl
        | 27, _ => exact .inr rfl
        | 28, _ => exact .inr rfl
        | 29, _ => exact .inr rfl
        | j + 30, _ => exact .inr rfl
      · intro q hq he
        simp only [List.mem_cons, List.not_mem_nil, or_false] at hq
        rcases hq with rfl | rfl <;> first | exact hv | exact absurd (show (22 : Nat) = 16 from he) (by decide)
    · intro s D w' hD hW hC hI
      have hS := hI.below
      refine .inl ⟨s, fun _ _ _ => rfl, ?_⟩
      with_reducible refine OpTo.wanted ?_ ?_
      kernel_rfl
      have hP16 : D 16 = true := need_waited hC hW (by kernel_rfl)
      have hq16 := hI.at (16, (fun v w => IsG w v f)) (by simp) hP16
      dsimp only at hq16
      have HI := Lib.hid hI
      have HC := Lib.hid ((by have q := gsame_any (IsG.of (KG.out.below hS KG.out.lt)) hq16; rw [sameF_refl] at q; exact q : Calls Try.prog 20 #[(.pointer (some ⟨g, 0, none⟩)), s 16] w' fun e w'' => e = .returned (.bool true) ∧ Below w'.heap.size w' w''))
      clear hI hS hC hW hD hP16 hq16
      go_wp2_with fail
      refine HC.out.mono ?_
      rintro e w'' ⟨rfl, hb2⟩
      exact ⟨rfl, HI.out.step HL.out hb2 (by intro q hq; simp only [List.mem_cons, List.not_mem_nil, or_false] at hq; rcases hq with rfl | rfl <;> first | exact (show (16 : Nat) ≠ 17 by decide) | exact (show (22 : Nat) ≠ 17 by decide))⟩
    · intro s D w' hD hW hC hI
      have hS := hI.below
      refine .inl ⟨s, fun _ _ _ => rfl, ?_⟩
      with_reducible refine OpTo.wanted ?_ ?_
      kernel_rfl
      have HS := Lib.hid (hI.step HL.out (Below.refl _ _) (k := 18) (by intro q hq; simp only [List.mem_cons, List.not_mem_nil, or_false] at hq; rcases hq with rfl | rfl <;> first | exact (show (16 : Nat) ≠ 18 by decide) | exact (show (22 : Nat) ≠ 18 by decide)))
      clear hI hS hC hW hD
      go_wp2_with fail
      all_goals first | exact HS.out | exact ⟨rfl, HS.out⟩ | rfl
    · intro s D w' hD hW hC hI
      have hS := hI.below
      refine .inl ⟨s, fun _ _ _ => rfl, ?_⟩
      with_reducible refine OpTo.plain ?_ ?_
      exact rfl
      have HS := Lib.hid (hI.step HL.out (Below.refl _ _) (k := 19) (by intro q hq; simp only [List.mem_cons, List.not_mem_nil, or_false] at hq; rcases hq with rfl | rfl <;> first | exact (show (16 : Nat) ≠ 19 by decide) | exact (show (22 : Nat) ≠ 19 by decide)))
      clear hI hS hC hW hD
      go_wp2_with fail
      all_goals first | exact HS.out | exact ⟨rfl, HS.out⟩ | rfl
    · intro s D w' hD hW hC hI
      have hS := hI.below
      refine .inl ⟨s, fun _ _ _ => rfl, ?_⟩
      with_reducible refine OpTo.plain ?_ ?_
      exact rfl
      have HS := Lib.hid (hI.step HL.out (Below.refl _ _) (k := 20) (by intro q hq; simp only [List.mem_cons, List.not_mem_nil, or_false] at hq; rcases hq with rfl | rfl <;> first | exact (show (16 : Nat) ≠ 20 by decide) | exact (show (22 : Nat) ≠ 20 by decide)))
      clear hI hS hC hW hD
      go_wp2_with fail
      all_goals first | exact HS.out | exact ⟨rfl, HS.out⟩ | rfl
    · intro s D w' hD hW hC hI
      have hS := hI.below
      refine .inl ⟨s, fun _ _ _ => rfl, ?_⟩
      with_reducible refine OpTo.wanted ?_ ?_
      kernel_rfl
      have HS := Lib.hid (hI.step HL.out (Below.refl _ _) (k := 21) (by intro q hq; simp only [List.mem_cons, List.not_mem_nil, or_false] at hq; rcases hq with rfl | rfl <;> first | exact (show (16 : Nat) ≠ 21 by decide) | exact (show (22 : Nat) ≠ 21 by decide)))
      clear hI hS hC hW hD
      go_wp2_with fail
      all_goals first | exact HS.out | exact ⟨rfl, HS.out⟩ | rfl
    · intro s D w' hD hW hC hI
      have hS := hI.below
      have HI := Lib.hid hI
      have HCl := Lib.hid hC
      have HD := Lib.hid hD
      have HC := Lib.hid ((gedges_any (IsG.of (KC.out.below hS KC.out.lt)) HO0.out).mono (fun e w'' h => (by obtain ⟨v, h1, h2, h3⟩ := h; exact ⟨v, h1, h2.base hS.size, h3⟩ : ∃ v, e = .returned v ∧ Rowed w'' W.heap.size 35 3 v (allE f0).length (fwCells (allE f0)) ∧ Below w'.heap.size w' w'')))
      refine .inr ?_
      with_reducible refine OpGets.wanted ?_ ?_
      kernel_rfl
      clear hI hS hC hW hD
      go_wp2_with fail
      refine HC.out.mono ?_
      rintro e w'' ⟨v, rfl, hv, hb2⟩
      refine ⟨v, rfl, updV s 22 v, vals_put _ (fun s : Nat → Value => [(.pointer (some ⟨g, 0, none⟩)), (.pointer (some ⟨c, 0, none⟩)), (.bool (sameF f f0)), (.pointer (some ⟨m, 0, none⟩)), (.pointer (some ⟨m, 0, none⟩)), (.pointer (some ⟨m, 0, none⟩)), vl, (.pointer (some ⟨d, 0, none⟩)), (.pointer (some ⟨d, 0, none⟩)), (.pointer (some ⟨d, 0, none⟩)), vd, (.bool (sameF f f0)), (.bool false), (.bool false), (.pointer (some ⟨g, 0, none⟩)), (.pointer (some ⟨g, 0, none⟩)), s 16, (.bool true), (.bool false), (.bool false), (.bool false), (.pointer (some ⟨c, 0, none⟩)), s 22, (.pointer (some ⟨d, 0, none⟩)), (.pointer (some ⟨d, 0, none⟩)), (.pointer (some ⟨d, 0, none⟩)), vd, (.bool true), (.bool false), (.bool false)]) s 22 v HCl.out HD.out ?_, rfl, HI.out.put HL.out hb2 ?_⟩
      · intro j hj
        match j, hj with
        | 0, _ => exact .inr rfl
        | 1, _ => exact .inr rfl
        | 2, _ => exact .inr rfl
        | 3, _ => exact .inr rfl
        | 4, _ => exact .inr rfl
        | 5, _ => exact .inr rfl
        | 6, _ => exact .inr rfl
        | 7, _ => exact .inr rfl
        | 8, _ => exact .inr rfl
        | 9, _ => exact .inr rfl
        | 10, _ => exact .inr rfl
        | 11, _ => exact .inr rfl
        | 12, _ => exact .inr rfl
        | 13, _ => exact .inr rfl
        | 14, _ => exact .inr rfl
        | 15, _ => exact .inr rfl
        | 16, _ => exact .inr rfl
        | 17, _ => exact .inr rfl
        | 18, _ => exact .inr rfl
        | 19, _ => exact .inr rfl
        | 20, _ => exact .inr rfl
        | 21, _ => exact .inr rfl
        | 22, _ => exact .inl (.inl rfl)
        | 23, _ => exact .inr rfl
        | 24, _ => exact .inr rfl
        | 25, _ => exact .inr rfl
        | 26, _ => exact .inr rfl
        | 27, _ => exact .inr rfl
        | 28, _ => exact .inr rfl
        | 29, _ => exact .inr rfl
        | j + 30, _ => exact .inr rfl
      · intro q hq he
        simp only [List.mem_cons, List.not_mem_nil, or_false] at hq
        rcases hq with rfl | rfl <;> first | exact hv | exact absurd (show (16 : Nat) = 22 from he) (by decide)
    · intro s D w' hD hW hC hI
      have hS := hI.below
      refine .inl ⟨s, fun _ _ _ => rfl, ?_⟩
      with_reducible refine OpTo.wanted ?_ ?_
      kernel_rfl
      have HS := Lib.hid (hI.step HL.out (Below.refl _ _) (k := 23) (by intro q hq; simp only [List.mem_cons, List.not_mem_nil, or_false] at hq; rcases hq with rfl | rfl <;> first | exact (show (16 : Nat) ≠ 23 by decide) | exact (show (22 : Nat) ≠ 23 by decide)))
      clear hI hS hC hW hD
      go_wp2_with fail
      all_goals first | exact HS.out | exact ⟨rfl, HS.out⟩ | rfl
    · intro s D w' hD hW hC hI
      have hS := hI.below
      refine .inl ⟨s, fun _ _ _ => rfl, ?_⟩
      with_reducible refine OpTo.wanted ?_ ?_
      kernel_rfl
      have kd := (KD.out.below hS).blk
      have hdl := kd.lt
      have dd := kd.cell 0
      simp at dd
      have HS := Lib.hid (hI.step HL.out (Below.refl _ _) (k := 24) (by intro q hq; simp only [List.mem_cons, List.not_mem_nil, or_false] at hq; rcases hq with rfl | rfl <;> first | exact (show (16 : Nat) ≠ 24 by decide) | exact (show (22 : Nat) ≠ 24 by decide)))
      clear hI hS hC hW hD
      go_wp2_with fail
      all_goals first | exact HS.out | exact ⟨rfl, HS.out⟩ | rfl
    · intro s D w' hD hW hC hI
      have hS := hI.below
      refine .inl ⟨s, fun _ _ _ => rfl, ?_⟩
      with_reducible refine OpTo.wanted ?_ ?_
      kernel_rfl
      have kd := (KD.out.below hS).blk
      have hdl := kd.lt
      have dd := kd.cell 0
      simp at dd
      have HS := Lib.hid (hI.step HL.out (Below.refl _ _) (k := 25) (by intro q hq; simp only [List.mem_cons, List.not_mem_nil, or_false] at hq; rcases hq with rfl | rfl <;> first | exact (show (16 : Nat) ≠ 25 by decide) | exact (show (22 : Nat) ≠ 25 by decide)))
      clear hI hS hC hW hD
      go_wp2_with fail
      all_goals first | exact HS.out | exact ⟨rfl, HS.out⟩ | rfl
    · intro s D w' hD hW hC hI
      have hS := hI.below
      refine .inl ⟨s, fun _ _ _ => rfl, ?_⟩
      with_reducible refine OpTo.wanted ?_ ?_
      kernel_rfl
      have kd := (KD.out.below hS).blk
      have hdl := kd.lt
      have dd := kd.cell 0
      simp at dd
      have HS := Lib.hid (hI.step HL.out (Below.refl _ _) (k := 26) (by intro q hq; simp only [List.mem_cons, List.not_mem_nil, or_false] at hq; rcases hq with rfl | rfl <;> first | exact (show (16 : Nat) ≠ 26 by decide) | exact (show (22 : Nat) ≠ 26 by decide)))
      clear hI hS hC hW hD
      go_wp2_with fail
      all_goals first | exact HS.out | exact ⟨rfl, HS.out⟩ | rfl
    · intro s D w' hD hW hC hI
      have hS := hI.below
      refine .inl ⟨s, fun _ _ _ => rfl, ?_⟩
      with_reducible refine OpTo.wanted ?_ ?_
      kernel_rfl
      have hP22 : D 22 = true := need_waited hC hW (by kernel_rfl)
      have hq22 := hI.at (22, (fun v w => Rowed w W.heap.size 35 3 v (allE f0).length (fwCells (allE f0)))) (by simp) hP22
      dsimp only at hq22
      have HI := Lib.hid hI
      have HC := Lib.hid ((by have q := SameFlows_any (hq22.reads (by have := prefE_len f0 256; unfold allE; omega)) (Reads.of_owns (KD.out.below hS).row (by have := prefE_len f0 256; unfold allE; omega)); rw [decide_eq_true rfl] at q; exact q : Calls Try.prog 18 #[s 22, vd] w' fun e w'' => e = .returned (.bool true) ∧ Below w'.heap.size w' w''))
      clear hI hS hC hW hD hP22 hq22
      go_wp2_with fail
      refine HC.out.mono ?_
      rintro e w'' ⟨rfl, hb2⟩
      exact ⟨rfl, HI.out.step HL.out hb2 (by intro q hq; simp only [List.mem_cons, List.not_mem_nil, or_false] at hq; rcases hq with rfl | rfl <;> first | exact (show (16 : Nat) ≠ 27 by decide) | exact (show (22 : Nat) ≠ 27 by decide))⟩
    · intro s D w' hD hW hC hI
      have hS := hI.below
      refine .inl ⟨s, fun _ _ _ => rfl, ?_⟩
      with_reducible refine OpTo.wanted ?_ ?_
      kernel_rfl
      have HS := Lib.hid (hI.step HL.out (Below.refl _ _) (k := 28) (by intro q hq; simp only [List.mem_cons, List.not_mem_nil, or_false] at hq; rcases hq with rfl | rfl <;> first | exact (show (16 : Nat) ≠ 28 by decide) | exact (show (22 : Nat) ≠ 28 by decide)))
      clear hI hS hC hW hD
      go_wp2_with fail
      all_goals first | exact HS.out | exact ⟨rfl, HS.out⟩ | rfl
    · intro s D w' hD hW hC hI
      have hS := hI.below
      refine .inl ⟨s, fun _ _ _ => rfl, ?_⟩
      with_reducible refine OpTo.plain ?_ ?_
      exact rfl
      have HS := Lib.hid (hI.step HL.out (Below.refl _ _) (k := 29) (by intro q hq; simp only [List.mem_cons, List.not_mem_nil, or_false] at hq; rcases hq with rfl | rfl <;> first | exact (show (16 : Nat) ≠ 29 by decide) | exact (show (22 : Nat) ≠ 29 by decide)))
      clear hI hS hC hW hD
      go_wp2_with fail
      all_goals first | exact HS.out | exact ⟨rfl, HS.out⟩ | rfl
  intro s D w6 hall hI
  exact HQ.out w6 (s 16) (s 22) hI.below

/-- While the last region runs: the book of pages; behind Apart, the rest; what Edges answered. -/
structure TI (R : World → Prop) (base bk : Nat) (bv : Value) (pgs : List Pg) (es : List Fw) (s : Nat → Value) (D : Nat → Bool) (w : World) : Prop where
  tail : D 0 = false → TailO R base bk bv pgs w
  rest : D 0 = true → R w
  row : D 3 = true → ∃ b, Rowed w b 35 3 (s 3) es.length (fwCells es)
theorem TailO.drew {R : World → Prop} {base g : Nat} {bv : Value} {pgs : List Pg} {w : World} (f : FarR base R) (h : TailO R base g bv pgs w) : TailO R base g bv pgs w.drew := h.below f ((Below.refl _ _).drew)
theorem TI.start {R : World → Prop} {base bk : Nat} {bv : Value} {pgs : List Pg} {es : List Fw} {s : Nat → Value} {w : World} (f : FarR base R) (h : TailO R base bk bv pgs w) : TI R base bk bv pgs es s (fun _ => false) w.drew := ⟨fun _ => h.drew f, fun d => (Bool.false_ne_true d).elim, fun d => (Bool.false_ne_true d).elim⟩
theorem TI.first {R : World → Prop} {base bk : Nat} {bv : Value} {pgs : List Pg} {es : List Fw} {s : Nat → Value} {D : Nat → Bool} {w : World} (h3 : D 3 = false) (h : R w) : TI R base bk bv pgs es s (ins 0 D) w :=
  ⟨fun d => (by rw [ins_same] at d; cases d), fun _ => h, fun d => (by rw [ins_ne D (by decide), h3] at d; cases d)⟩
theorem TI.step {R : World → Prop} {base bk : Nat} {bv : Value} {pgs : List Pg} {es : List Fw} {s : Nat → Value} {D : Nat → Bool} {w w' : World} (h : TI R base bk bv pgs es s D w) (f : FarR base R) (h0 : D 0 = true) (hb : Below w.heap.size w w') {k : Nat} (k0 : k ≠ 0) (k3 : k ≠ 3) : TI R base bk bv pgs es s (ins k D) w' := by
  refine ⟨fun d => ?_, fun _ => f.below (h.rest h0) hb, fun d => ?_⟩
  · rw [ins_ne D (Ne.symm k0), h0] at d; cases d
  · rw [ins_ne D (Ne.symm k3)] at d
    obtain ⟨b, hr⟩ := h.row d
    exact ⟨b, hr.below hb⟩
theorem TI.second {R : World → Prop} {base bk : Nat} {bv : Value} {pgs : List Pg} {es : List Fw} {s : Nat → Value} {D : Nat → Bool} {w w' : World} {v : Value} (h : TI R base bk bv pgs es s D w) (f : FarR base R) (h0 : D 0 = true) (hb : Below w.heap.size w w') (hv : ∃ b, Rowed w' b 35 3 v es.length (fwCells es)) : TI R base bk bv pgs es (updV s 3 v) (ins 3 D) w' := by
  refine ⟨fun d => ?_, fun _ => f.below (h.rest h0) hb, fun _ => ?_⟩
  · rw [ins_ne D (by decide), h0] at d; cases d
  · rw [updV_self]; exact hv
set_option maxHeartbeats 16000000 in
set_option maxRecDepth 100000 in
theorem gplay_r27 {W : World} {R : World → Prop} {b0 base bk g m : Nat} {bv : Value} {pgs : List Pg} {f : Int → Int → Int} {vl : Value} (T3 : Hid (TailO R base bk bv pgs W)) (FR : Hid (FarR base R)) (hl : Hid (pgs.length ≤ 120)) (RG : Hid (∀ w, R w → Blk w g (graC f true) 52)) (RM : Hid (∀ w, R w → RefG w b0 m (allE f) vl)) (HG : Hid (GInv f 4398046511104)) {Q : Exit → Act → World → Prop} {c0 c1 c2 c3 c4 c5 c7 c9 c10 c11 c12 c13 c14 c16 c17 c18 c19 c20 c21 c22 c23 c24 c25 c26 c27 c28 c29 c30 c31 c32 c33 c34 c35 c36 c37 c38 c39 c40 c41 c42 c43 c44 c45 c46 c47 c48 c49 c50 c51 c52 c53 c54 c55 c56 c57 c58 c59 c60 c61 c62 c63 c64 c65 c66 c67 c68 c69 c70 c71 c72 c73 c74 c75 c76 c77 c78 c79 c80 c81 c82 c83 c84 c85 c86 c87 c88 c89 c90 c91 c92 c93 c94 c95 c96 c97 c98 c99 c100 c101 c102 c103 c104 c105 c106 c107 c108 c109 c110 c111 c112 c113 c114 c115 c116 c117 c118 c119 c120 c121 c122 c123 c124 c125 c126 c127 c128 c129 c130 c131 c132 c133 c134 c135 c136 c137 c138 c139 c140 c141 c142 c143 c144 c145 c146 c147 c148 c149 c150 c151 c152 c153 c154 c155 c156 c157 c158 c159 c160 c161 c162 c163 c164 c165 c166 c167 c168 c169 c170 c171 c172 c173 c174 c175 c176 c177 c178 c179 c180 c181 c182 c183 : Value}
    (hq : ∀ w6 v3, R w6 → Q .normal ⟨#[c0, c1, c2, c3, (.bool true), c5, (.pointer (some ⟨g, 0, none⟩)), c7, (.pointer (some ⟨m, 0, none⟩)), c9, c10, c11, c12, c13, c14, (.pointer (some ⟨bk, 0, none⟩)), c16, c17, c18, c19, c20, c21, c22, c23, c24, c25, c26, c27, c28, c29, c30, c31, c32, c33, c34, c35, c36, c37, c38, c39, c40, c41, c42, c43, c44, c45, c46, c47, c48, c49, c50, c51, c52, c53, c54, c55, c56, c57, c58, c59, c60, c61, c62, c63, c64, c65, c66, c67, c68, c69, c70, c71, c72, c73, c74, c75, c76, c77, c78, c79, c80, c81, c82, c83, c84, c85, c86, c87, c88, c89, c90, c91, c92, c93, c94, c95, c96, c97, c98, c99, c100, c101, c102, c103, c104, c105, c106, c107, c108, c109, c110, c111, c112, c113, c114, c115, c116, c117, c118, c119, c120, c121, c122, c123, c124, c125, c126, c127, c128, c129, c130, c131, c132, c133, c134, c135, c136, c137, c138, c139, c140, c141, c142, c143, c144, c145, c146, c147, c148, c149, c150, c151, c152, c153, c154, c155, c156, c157, c158, c159, c160, c161, c162, c163, c164, c165, c166, c167, c168, c169, c170, (.bool true), (.bool true), (.pointer (some ⟨g, 0, none⟩)), v3, (.pointer (some ⟨m, 0, none⟩)), (.pointer (some ⟨m, 0, none⟩)), (.pointer (some ⟨m, 0, none⟩)), vl, (.bool true), (.bool true), (.bool true), (.bool true), (.bool true)], []⟩ w6) :
    Code.wp Try.prog (((Try.f3.body).bind (regionNo 27)).getD .skip) Q ⟨#[c0, c1, c2, c3, c4, c5, (.pointer (some ⟨g, 0, none⟩)), c7, (.pointer (some ⟨m, 0, none⟩)), c9, c10, c11, c12, c13, c14, (.pointer (some ⟨bk, 0, none⟩)), c16, c17, c18, c19, c20, c21, c22, c23, c24, c25, c26, c27, c28, c29, c30, c31, c32, c33, c34, c35, c36, c37, c38, c39, c40, c41, c42, c43, c44, c45, c46, c47, c48, c49, c50, c51, c52, c53, c54, c55, c56, c57, c58, c59, c60, c61, c62, c63, c64, c65, c66, c67, c68, c69, c70, c71, c72, c73, c74, c75, c76, c77, c78, c79, c80, c81, c82, c83, c84, c85, c86, c87, c88, c89, c90, c91, c92, c93, c94, c95, c96, c97, c98, c99, c100, c101, c102, c103, c104, c105, c106, c107, c108, c109, c110, c111, c112, c113, c114, c115, c116, c117, c118, c119, c120, c121, c122, c123, c124, c125, c126, c127, c128, c129, c130, c131, c132, c133, c134, c135, c136, c137, c138, c139, c140, c141, c142, c143, c144, c145, c146, c147, c148, c149, c150, c151, c152, c153, c154, c155, c156, c157, c158, c159, c160, c161, c162, c163, c164, c165, c166, c167, c168, c169, c170, c171, c172, c173, c174, c175, c176, c177, c178, c179, c180, c181, c182, c183], []⟩ W := by
  conv => arg 2; whnf
  have HQ := Lib.hid hq
  clear hq
  have HO := Lib.hid HG.out.outF
  refine region_fresh (by kernel_rfl) (fun s : Nat → Value => [(.bool true), (.bool true), (.pointer (some ⟨g, 0, none⟩)), s 3, (.pointer (some ⟨m, 0, none⟩)), (.pointer (some ⟨m, 0, none⟩)), (.pointer (some ⟨m, 0, none⟩)), vl, (.bool true), (.bool true), (.bool true), (.bool true), (.bool true), (.bool true)])
    (TI R base bk bv pgs (allE f)) (by kernel_rfl) (fun _ => undef) (TI.start FR.out T3.out) ?_
  intro AF hAF
  simp only [List.toList_toArray, List.append_eq, List.cons_append, List.nil_append, puts, Act.put, List.getD_cons_zero, List.getD_cons_succ, List.setIfInBounds_toArray, List.set_cons_succ, List.set_cons_zero] at hAF
  have hAF2 : _ = AF := funext hAF
  subst hAF2
  clear hAF
  refine ⟨?_, ?_⟩
  · simp only [List.toList_toArray, List.append_eq, List.cons_append, List.nil_append, EachF]
    refine ⟨?_, ?_, ?_, ?_, ?_, ?_, ?_, ?_, ?_, ?_, ?_, ?_, ?_, ?_, trivial⟩
    · intro s D w' hD hW hC hI
      refine .inl ⟨s, fun _ _ _ => rfl, ?_⟩
      with_reducible refine OpTo.plain ?_ ?_
      exact rfl
      have h3 : D 3 = false := need_not hC hD 3 (by kernel_rfl)
      have ht := hI.tail hD
      have HT := Lib.hid ht
      have HC := Lib.hid (apart_any ht.book hl.out ht.mem ht.apart)
      clear hI hC hW hD ht
      go_wp2_with fail
      refine HC.out.mono ?_
      rintro e w'' ⟨rfl, hk⟩
      exact ⟨rfl, TI.first h3 (HT.out.done FR.out hk)⟩
    · intro s D w' hD hW hC hI
      have h0 : D 0 = true := need_waited hC hW (by kernel_rfl)
      have hR := hI.rest h0
      refine .inl ⟨s, fun _ _ _ => rfl, ?_⟩
      with_reducible refine OpTo.plain ?_ ?_
      exact rfl
      have HS := Lib.hid (hI.step FR.out h0 (Below.refl _ _) (k := 1) (by decide) (by decide))
      clear hI hC hW hD hR h0
      go_wp2_with fail
      all_goals first | exact HS.out | exact ⟨rfl, HS.out⟩ | rfl
    · intro s D w' hD hW hC hI
      have h0 : D 0 = true := need_waited hC hW (by kernel_rfl)
      have hR := hI.rest h0
      refine .inl ⟨s, fun _ _ _ => rfl, ?_⟩
      with_reducible refine OpTo.wanted ?_ ?_
      kernel_rfl
      have HS := Lib.hid (hI.step FR.out h0 (Below.refl _ _) (k := 2) (by decide) (by decide))
      clear hI hC hW hD hR h0
      go_wp2_with fail
      all_goals first | exact HS.out | exact ⟨rfl, HS.out⟩ | rfl
    · intro s D w' hD hW hC hI
      have h0 : D 0 = true := need_waited hC hW (by kernel_rfl)
      have hR := hI.rest h0
      have HCl := Lib.hid hC
      have HD := Lib.hid hD
      have HI := Lib.hid hI
      have H0 := Lib.hid h0
      have HE := Lib.hid (gedges_any (IsG.of (RG.out w' hR)) HO.out)
      refine .inr ?_
      with_reducible refine OpGets.wanted ?_ ?_
      kernel_rfl
      clear hI hC hW hD hR h0
      go_wp2_with fail
      refine HE.out.mono ?_
      rintro e w'' ⟨v, rfl, hv, hb2⟩
      refine ⟨v, rfl, updV s 3 v, vals_put _ (fun s : Nat → Value => [(.bool true), (.bool true), (.pointer (some ⟨g, 0, none⟩)), s 3, (.pointer (some ⟨m, 0, none⟩)), (.pointer (some ⟨m, 0, none⟩)), (.pointer (some ⟨m, 0, none⟩)), vl, (.bool true), (.bool true), (.bool true), (.bool true), (.bool true), (.bool true)]) s 3 v HCl.out HD.out ?_, rfl, HI.out.second FR.out H0.out hb2 ⟨_, hv⟩⟩
      intro j hj
      match j, hj with
      | 0, _ => exact .inr rfl
      | 1, _ => exact .inr rfl
      | 2, _ => exact .inr rfl
      | 3, _ => exact .inl (.inl rfl)
      | 4, _ => exact .inr rfl
      | 5, _ => exact .inr rfl
      | 6, _ => exact .inr rfl
      | 7, _ => exact .inr rfl
      | 8, _ => exact .inr rfl
      | 9, _ => exact .inr rfl
      | 10, _ => exact .inr rfl
      | 11, _ => exact .inr rfl
      | 12, _ => exact .inr rfl
      | 13, _ => exact .inr rfl
      | j + 14, _ => exact .inr rfl
    · intro s D w' hD hW hC hI
      have h0 : D 0 = true := need_waited hC hW (by kernel_rfl)
      have hR := hI.rest h0
      refine .inl ⟨s, fun _ _ _ => rfl, ?_⟩
      with_reducible refine OpTo.wanted ?_ ?_
      kernel_rfl
      have HS := Lib.hid (hI.step FR.out h0 (Below.refl _ _) (k := 4) (by decide) (by decide))
      clear hI hC hW hD hR h0
      go_wp2_with fail
      all_goals first | exact HS.out | exact ⟨rfl, HS.out⟩ | rfl
    · intro s D w' hD hW hC hI
      have h0 : D 0 = true := need_waited hC hW (by kernel_rfl)
      have hR := hI.rest h0
      refine .inl ⟨s, fun _ _ _ => rfl, ?_⟩
      with_reducible refine OpTo.wanted ?_ ?_
      kernel_rfl
      have km := (RM.out w' hR).blk
      have hml := km.lt
      have dm := km.cell 0
      simp at dm
      have HS := Lib.hid (hI.step FR.out h0 (Below.refl _ _) (k := 5) (by decide) (by decide))
      clear hI hC hW hD hR h0
      go_wp2_with fail
      all_goals first | exact HS.out | exact ⟨rfl, HS.out⟩ | rfl
    · intro s D w' hD hW hC hI
      have h0 : D 0 = true := need_waited hC hW (by kernel_rfl)
      have hR := hI.rest h0
      refine .inl ⟨s, fun _ _ _ => rfl, ?_⟩
      with_reducible refine OpTo.wanted ?_ ?_
      kernel_rfl
      have km := (RM.out w' hR).blk
      have hml := km.lt
      have dm := km.cell 0
      simp at dm
      have HS := Lib.hid (hI.step FR.out h0 (Below.refl _ _) (k := 6) (by decide) (by decide))
      clear hI hC hW hD hR h0
      go_wp2_with fail
      all_goals first | exact HS.out | exact ⟨rfl, HS.out⟩ | rfl
    · intro s D w' hD hW hC hI
      have h0 : D 0 = true := need_waited hC hW (by kernel_rfl)
      have hR := hI.rest h0
      refine .inl ⟨s, fun _ _ _ => rfl, ?_⟩
      with_reducible refine OpTo.wanted ?_ ?_
      kernel_rfl
      have km := (RM.out w' hR).blk
      have hml := km.lt
      have dm := km.cell 0
      simp at dm
      have HS := Lib.hid (hI.step FR.out h0 (Below.refl _ _) (k := 7) (by decide) (by decide))
      clear hI hC hW hD hR h0
      go_wp2_with fail
      all_goals first | exact HS.out | exact ⟨rfl, HS.out⟩ | rfl
    · intro s D w' hD hW hC hI
      have h0 : D 0 = true := need_waited hC hW (by kernel_rfl)
      have hR := hI.rest h0
      refine .inl ⟨s, fun _ _ _ => rfl, ?_⟩
      with_reducible refine OpTo.wanted ?_ ?_
      kernel_rfl
      have HI := Lib.hid hI
      have H0 := Lib.hid h0
      have h3 : D 3 = true := need_waited hC hW (by kernel_rfl)
      obtain ⟨bb, hv⟩ := hI.row h3
      have HC := Lib.hid (SameFlows_any (hv.reads (by have := prefE_len f 256; unfold allE; omega)) (Reads.of_owns (RM.out w' hR).row (by have := prefE_len f 256; unfold allE; omega)))
      rw [decide_eq_true rfl] at HC
      clear hv h3
      clear hI hC hW hD hR h0
      go_wp2_with fail
      refine HC.out.mono ?_
      rintro e w'' ⟨rfl, hb2⟩
      exact ⟨rfl, HI.out.step FR.out H0.out hb2 (k := 8) (by decide) (by decide)⟩
    · intro s D w' hD hW hC hI
      have h0 : D 0 = true := need_waited hC hW (by kernel_rfl)
      have hR := hI.rest h0
      refine .inl ⟨s, fun _ _ _ => rfl, ?_⟩
      with_reducible refine OpTo.plain ?_ ?_
      exact rfl
      have HS := Lib.hid (hI.step FR.out h0 (Below.refl _ _) (k := 9) (by decide) (by decide))
      clear hI hC hW hD hR h0
      go_wp2_with fail
      all_goals first | exact HS.out | exact ⟨rfl, HS.out⟩ | rfl
    · intro s D w' hD hW hC hI
      have h0 : D 0 = true := need_waited hC hW (by kernel_rfl)
      have hR := hI.rest h0
      refine .inl ⟨s, fun _ _ _ => rfl, ?_⟩
      with_reducible refine OpTo.plain ?_ ?_
      exact rfl
      have HS := Lib.hid (hI.step FR.out h0 (Below.refl _ _) (k := 10) (by decide) (by decide))
      clear hI hC hW hD hR h0
      go_wp2_with fail
      all_goals first | exact HS.out | exact ⟨rfl, HS.out⟩ | rfl
    · intro s D w' hD hW hC hI
      have h0 : D 0 = true := need_waited hC hW (by kernel_rfl)
      have hR := hI.rest h0
      refine .inl ⟨s, fun _ _ _ => rfl, ?_⟩
      with_reducible refine OpTo.wanted ?_ ?_
      kernel_rfl
      have HI := Lib.hid hI
      have H0 := Lib.hid h0
      have HC := Lib.hid (lives05_any w')
      clear hI hC hW hD hR h0
      go_wp2_with fail
      refine HC.out.mono ?_
      rintro e w'' ⟨rfl, hb2⟩
      exact ⟨rfl, HI.out.step FR.out H0.out hb2 (k := 11) (by decide) (by decide)⟩
    · intro s D w' hD hW hC hI
      have h0 : D 0 = true := need_waited hC hW (by kernel_rfl)
      have hR := hI.rest h0
      refine .inl ⟨s, fun _ _ _ => rfl, ?_⟩
      with_reducible refine OpTo.plain ?_ ?_
      exact rfl
      have HS := Lib.hid (hI.step FR.out h0 (Below.refl _ _) (k := 12) (by decide) (by decide))
      clear hI hC hW hD hR h0
      go_wp2_with fail
      all_goals first | exact HS.out | exact ⟨rfl, HS.out⟩ | rfl
    · intro s D w' hD hW hC hI
      have h0 : D 0 = true := need_waited hC hW (by kernel_rfl)
      have hR := hI.rest h0
      refine .inl ⟨s, fun _ _ _ => rfl, ?_⟩
      with_reducible refine OpTo.plain ?_ ?_
      exact rfl
      have HS := Lib.hid (hI.step FR.out h0 (Below.refl _ _) (k := 13) (by decide) (by decide))
      clear hI hC hW hD hR h0
      go_wp2_with fail
      all_goals first | exact HS.out | exact ⟨rfl, HS.out⟩ | rfl
  intro s D w6 hall hI
  exact HQ.out w6 (s 3) (hI.rest (hall 0 (by decide)))

end Go.Proofs.Ytdpkcamhafkkbaa
