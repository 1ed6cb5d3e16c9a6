/-
  GraphsPlay's great region: a push in both graphs, and what they answer (written by gen_gplay5.py).
-/
import Derived.Test.YtdpkcamhafkkbaaLives05
import Derived.Test.YtdpkcamhafkkbaaFresh
import Derived.Test.YtdpkcamhafkkbaaFlwIn
import Derived.Test.YtdpkcamhafkkbaaLays
namespace Go.Proofs.Ytdpkcamhafkkbaa
open Go.RowKit
set_option linter.unusedSimpArgs false
set_option linter.unusedVariables false

/-- While the region runs: each graph as it was, or as it is behind its push; what Edges answered; the document's list. -/
structure PI (W : World) (base g m : Nat) (f f' : Int → Int → Int) (s : Nat → Value) (D : Nat → Bool) (w : World) : Prop where
  keep : Keep (fun b => b = g ∨ b = m) W w
  base_le : base ≤ w.heap.size
  gb : g < base
  gm : g ≠ m
  mm : base ≤ m
  gr : Blk w g (graC (bif D 7 then f' else f) true) 52
  ref : ∃ vl, RefG w base m (allE (bif D 15 then f' else f)) vl
  e : D 49 = true → Rowed w base 35 3 (s 49) (allE f').length (fwCells (allE f'))
  l : D 53 = true → Reads w (s 53) 3 (allE f').length (fwCells (allE f'))
theorem PI.step {W w w' : World} {base g m : Nat} {f f' : Int → Int → Int} {s : Nat → Value} {D : Nat → Bool} (h : PI W base g m f f' s D w) (hb : Below w.heap.size w w') {k : Nat} (h1 : k ≠ 7) (h2 : k ≠ 15) (h3 : k ≠ 49) (h4 : k ≠ 53) : PI W base g m f f' s (ins k D) w' := by
  obtain ⟨vl, hR⟩ := h.ref
  refine ⟨h.keep.trans (Keep.of_below hb), Nat.le_trans h.base_le hb.size, h.gb, h.gm, h.mm, ?_, ⟨vl, ?_⟩, fun d => ?_, fun d => ?_⟩
  · rw [ins_ne D (Ne.symm h1)]; exact h.gr.below hb h.gr.lt
  · rw [ins_ne D (Ne.symm h2)]; exact hR.below hb
  · rw [ins_ne D (Ne.symm h3)] at d; exact (h.e d).below hb
  · rw [ins_ne D (Ne.symm h4)] at d; exact (h.l d).below hb
theorem PI.one {W w w' : World} {base g m : Nat} {f f' : Int → Int → Int} {s : Nat → Value} {D : Nat → Bool} (h : PI W base g m f f' s D w) (d1 : D 49 = false) (d2 : D 53 = false) (hb : Blk w' g (graC f' true) 52) (hk : Keep (· = g) w w') : PI W base g m f f' s (ins 7 D) w' := by
  obtain ⟨vl, hR⟩ := h.ref
  have gb := h.gb
  refine ⟨h.keep.trans (hk.mono fun k _ e => .inl e), Nat.le_trans h.base_le hk.size, h.gb, h.gm, h.mm, ?_, ⟨vl, ?_⟩, fun d => ?_, fun d => ?_⟩
  · rw [ins_same]; exact hb
  · rw [ins_ne D (by decide)]; exact hR.keep hk (fun e => h.gm e.symm) (fun b hb e => by have := (owns_type hR.row hb).1; omega)
  · rw [ins_ne D (by decide), d1] at d; cases d
  · rw [ins_ne D (by decide), d2] at d; cases d
theorem PI.two {W w w' : World} {base g m : Nat} {f f' : Int → Int → Int} {s : Nat → Value} {D : Nat → Bool} {vl : Value} (h : PI W base g m f f' s D w) (d1 : D 49 = false) (d2 : D 53 = false) (hb : RefG w' base m (allE f') vl) (hk : Keep (· = m) w w') : PI W base g m f f' s (ins 15 D) w' := by
  refine ⟨h.keep.trans (hk.mono fun k _ e => .inr e), Nat.le_trans h.base_le hk.size, h.gb, h.gm, h.mm, ?_, ⟨vl, ?_⟩, fun d => ?_, fun d => ?_⟩
  · rw [ins_ne D (by decide)]; exact h.gr.keep hk h.gm
  · rw [ins_same]; exact hb
  · rw [ins_ne D (by decide), d1] at d; cases d
  · rw [ins_ne D (by decide), d2] at d; cases d
theorem PI.three {W w w' : World} {base g m : Nat} {f f' : Int → Int → Int} {s : Nat → Value} {D : Nat → Bool} {v : Value} (h : PI W base g m f f' s D w) (hb : Below w.heap.size w w') (hv : Rowed w' base 35 3 v (allE f').length (fwCells (allE f'))) : PI W base g m f f' (updV s 49 v) (ins 49 D) w' := by
  obtain ⟨vl, hR⟩ := h.ref
  refine ⟨h.keep.trans (Keep.of_below hb), Nat.le_trans h.base_le hb.size, h.gb, h.gm, h.mm, ?_, ⟨vl, ?_⟩, fun d => ?_, fun d => ?_⟩
  · rw [ins_ne D (by decide)]; exact h.gr.below hb h.gr.lt
  · rw [ins_ne D (by decide)]; exact hR.below hb
  · rw [updV_self]; exact hv
  · rw [ins_ne D (by decide)] at d
    rw [updV_ne _ _ (by decide)]
    exact (h.l d).below hb
theorem PI.four {W w : World} {base g m : Nat} {f f' : Int → Int → Int} {s : Nat → Value} {D : Nat → Bool} {v : Value} (h : PI W base g m f f' s D w) (hv : Reads w v 3 (allE f').length (fwCells (allE f'))) : PI W base g m f f' (updV s 53 v) (ins 53 D) w := by
  obtain ⟨vl, hR⟩ := h.ref
  refine ⟨h.keep, h.base_le, h.gb, h.gm, h.mm, ?_, ⟨vl, ?_⟩, fun d => ?_, fun d => ?_⟩
  · rw [ins_ne D (by decide)]; exact h.gr
  · rw [ins_ne D (by decide)]; exact hR
  · rw [ins_ne D (by decide)] at d
    rw [updV_ne _ _ (by decide)]
    exact h.e d
  · rw [updV_self]; exact hv
theorem PI.not7 {W w : World} {base g m : Nat} {f f' : Int → Int → Int} {s : Nat → Value} {D : Nat → Bool} (h : PI W base g m f f' s D w) (d : D 7 = false) : Blk w g (graC f true) 52 := by have := h.gr; rw [d] at this; exact this
theorem PI.done7 {W w : World} {base g m : Nat} {f f' : Int → Int → Int} {s : Nat → Value} {D : Nat → Bool} (h : PI W base g m f f' s D w) (d : D 7 = true) : Blk w g (graC f' true) 52 := by have := h.gr; rw [d] at this; exact this
theorem PI.not15 {W w : World} {base g m : Nat} {f f' : Int → Int → Int} {s : Nat → Value} {D : Nat → Bool} (h : PI W base g m f f' s D w) (d : D 15 = false) : ∃ vl, RefG w base m (allE f) vl := by have := h.ref; rw [d] at this; exact this
theorem PI.done15 {W w : World} {base g m : Nat} {f f' : Int → Int → Int} {s : Nat → Value} {D : Nat → Bool} (h : PI W base g m f f' s D w) (d : D 15 = true) : ∃ vl, RefG w base m (allE f') vl := by have := h.ref; rw [d] at this; exact this
theorem PI.ltm {W w : World} {base g m : Nat} {f f' : Int → Int → Int} {s : Nat → Value} {D : Nat → Bool} (h : PI W base g m f f' s D w) : m < w.heap.size := by obtain ⟨vl, hR⟩ := h.ref; exact hR.blk.lt
theorem PI.at49 {W w : World} {base g m : Nat} {f f' : Int → Int → Int} {s : Nat → Value} {D : Nat → Bool} (h : PI W base g m f f' s D w) (d : D 49 = true) : Rowed w base 35 3 (s 49) (allE f').length (fwCells (allE f')) := h.e d
theorem PI.at53 {W w : World} {base g m : Nat} {f f' : Int → Int → Int} {s : Nat → Value} {D : Nat → Bool} (h : PI W base g m f f' s D w) (d : D 53 = true) : Reads w (s 53) 3 (allE f').length (fwCells (allE f')) := h.l d
theorem PI.start {W : World} {base g m : Nat} {f f' : Int → Int → Int} {s : Nat → Value} (hb : base ≤ W.heap.size) (gb : g < base) (gm : g ≠ m) (hg : Blk W g (graC f true) 52) (hm : ∃ vl, RefG W base m (allE f) vl) : PI W base g m f f' s (fun _ => false) W.drew := by
  obtain ⟨vl, hR⟩ := hm
  refine ⟨(Keep.refl _ _).drew, hb, gb, gm, hR.ge, hg.drew, ⟨vl, ?_⟩, (fun d => by cases d), (fun d => by cases d)⟩
  exact ⟨hR.blk.drew, hR.ge, hR.row⟩
/-- Behind the region. -/
def PDone (W : World) (base g m : Nat) (f' : Int → Int → Int) (w : World) : Prop := Keep (fun b => b = g ∨ b = m) W w ∧ Blk w g (graC f' true) 52 ∧ ∃ vl, RefG w base m (allE f') vl
set_option maxHeartbeats 32000000 in
set_option maxRecDepth 100000 in
theorem gplay_r20 {W : World} {base g m X : Nat} {f f' : Int → Int → Int} {fr tt am er u1 u2 : Int} (hgb : g < base) (hgm : g ≠ m) (hgX : g ≠ X) (hmX : m ≠ X) (KG : Hid (Blk W g (graC f true) 52)) (KM : Hid (∃ vl, RefG W base m (allE f) vl)) (HG : Hid (GInv f 4398046511104)) (HG2 : Hid (GInv f' 4398046511104)) (hn64 : Hid (In64 am)) (KX : Hid (Blk W X #[.int .u8 fr, .int .u8 tt, .int .i64 am] 35)) (EE : Hid (gPushE f fr tt am = er)) (EF : Hid (gPushF f fr tt am = f')) (EE2 : Hid (pushEE (allE f) fr tt am = er)) (EF2 : Hid (pushEL (allE f) fr tt am = allE f')) (U1 : Hid (f' fr tt = u1)) (U2 : Hid (f' tt fr = u2)) {Q : Exit → Act → World → Prop} {c0 c1 c2 c3 c4 c5 c7 c9 c10 c11 c12 c13 c15 c16 c17 c18 c19 c20 c21 c22 c23 c24 c25 c26 c27 c28 c29 c30 c31 c32 c33 c34 c35 c36 c37 c38 c39 c40 c41 c42 c43 c44 c45 c46 c47 c48 c49 c50 c51 c52 c53 c54 c55 c56 c57 c58 c59 c60 c61 c62 c63 c64 c65 c66 c67 c68 c69 c70 c71 c72 c73 c74 c75 c76 c77 c78 c79 c80 c81 c82 c83 c84 c85 c86 c87 c88 c89 c90 c91 c92 c93 c94 c95 c96 c97 c98 c99 c100 c101 c102 c103 c104 c105 c106 c107 c108 c109 c110 c111 c112 c113 c114 c115 c116 c117 c118 c119 c120 c121 c122 c123 c124 c125 c126 c127 c128 c129 c130 c131 c132 c133 c134 c135 c136 c137 c138 c139 c140 c141 c142 c143 c144 c145 c146 c147 c148 c149 c150 c151 c152 c153 c154 c155 c156 c157 c158 c159 c160 c161 c162 c163 c164 c165 c166 c167 c168 c169 c170 c171 c172 c173 c174 c175 c176 c177 c178 c179 c180 c181 c182 c183 : Value}
    (hbW : base ≤ W.heap.size) (hq : ∀ w6 v49 v53, PDone W base g m f' w6 → Q .normal ⟨#[c0, c1, c2, c3, c4, c5, (.pointer (some ⟨g, 0, none⟩)), c7, (.pointer (some ⟨m, 0, none⟩)), c9, c10, c11, c12, c13, (.pointer (some ⟨X, 0, none⟩)), c15, c16, c17, c18, c19, c20, c21, c22, c23, c24, c25, c26, c27, c28, c29, c30, c31, c32, c33, c34, c35, c36, c37, c38, c39, c40, c41, c42, c43, c44, c45, c46, c47, c48, c49, c50, c51, c52, c53, c54, c55, c56, c57, c58, c59, c60, c61, c62, c63, c64, c65, c66, c67, c68, c69, c70, c71, c72, c73, c74, c75, c76, (.pointer (some ⟨g, 0, none⟩)), (.pointer (some ⟨X, 0, none⟩)), (.int .u8 fr), (.pointer (some ⟨X, 1, none⟩)), (.int .u8 tt), (.pointer (some ⟨X, 2, none⟩)), (.int .i64 am), (.int .i64 er), (.pointer (some ⟨m, 0, none⟩)), (.pointer (some ⟨X, 0, none⟩)), (.int .u8 fr), (.pointer (some ⟨X, 1, none⟩)), (.int .u8 tt), (.pointer (some ⟨X, 2, none⟩)), (.int .i64 am), (.int .i64 er), (.bool false), (.bool false), (.pointer (some ⟨g, 0, none⟩)), (.pointer (some ⟨X, 0, none⟩)), (.int .u8 fr), (.pointer (some ⟨X, 1, none⟩)), (.int .u8 tt), (.int .i64 u1), (.pointer (some ⟨m, 0, none⟩)), (.pointer (some ⟨X, 0, none⟩)), (.int .u8 fr), (.pointer (some ⟨X, 1, none⟩)), (.int .u8 tt), (.int .i64 u1), (.bool false), (.bool false), (.bool false), (.pointer (some ⟨g, 0, none⟩)), (.pointer (some ⟨X, 1, none⟩)), (.int .u8 tt), (.pointer (some ⟨X, 0, none⟩)), (.int .u8 fr), (.int .i64 u2), (.pointer (some ⟨m, 0, none⟩)), (.pointer (some ⟨X, 1, none⟩)), (.int .u8 tt), (.pointer (some ⟨X, 0, none⟩)), (.int .u8 fr), (.int .i64 u2), (.bool false), (.bool false), (.bool false), (.pointer (some ⟨g, 0, none⟩)), v49, (.pointer (some ⟨m, 0, none⟩)), (.pointer (some ⟨m, 0, none⟩)), (.pointer (some ⟨m, 0, none⟩)), v53, (.bool true), (.bool false), (.bool false), c134, c135, c136, c137, c138, c139, c140, c141, c142, c143, c144, c145, c146, c147, c148, c149, c150, c151, c152, c153, c154, c155, c156, c157, c158, c159, c160, c161, c162, c163, c164, c165, c166, c167, c168, c169, c170, c171, c172, c173, c174, c175, c176, c177, c178, c179, c180, c181, c182, c183], []⟩ w6) :
    Code.wp Try.prog (((Try.f3.body).bind (regionNo 20)).getD .skip) Q ⟨#[c0, c1, c2, c3, c4, c5, (.pointer (some ⟨g, 0, none⟩)), c7, (.pointer (some ⟨m, 0, none⟩)), c9, c10, c11, c12, c13, (.pointer (some ⟨X, 0, none⟩)), c15, c16, c17, c18, c19, c20, c21, c22, c23, c24, c25, c26, c27, c28, c29, c30, c31, c32, c33, c34, c35, c36, c37, c38, c39, c40, c41, c42, c43, c44, c45, c46, c47, c48, c49, c50, c51, c52, c53, c54, c55, c56, c57, c58, c59, c60, c61, c62, c63, c64, c65, c66, c67, c68, c69, c70, c71, c72, c73, c74, c75, c76, c77, c78, c79, c80, c81, c82, c83, c84, c85, c86, c87, c88, c89, c90, c91, c92, c93, c94, c95, c96, c97, c98, c99, c100, c101, c102, c103, c104, c105, c106, c107, c108, c109, c110, c111, c112, c113, c114, c115, c116, c117, c118, c119, c120, c121, c122, c123, c124, c125, c126, c127, c128, c129, c130, c131, c132, c133, c134, c135, c136, c137, c138, c139, c140, c141, c142, c143, c144, c145, c146, c147, c148, c149, c150, c151, c152, c153, c154, c155, c156, c157, c158, c159, c160, c161, c162, c163, c164, c165, c166, c167, c168, c169, c170, c171, c172, c173, c174, c175, c176, c177, c178, c179, c180, c181, c182, c183], []⟩ W := by
  conv => arg 2; whnf
  have HQ := Lib.hid hq
  have HO := Lib.hid HG2.out.outF
  clear hq
  refine region_fresh (by kernel_rfl) (fun s : Nat → Value => [(.pointer (some ⟨g, 0, none⟩)), (.pointer (some ⟨X, 0, none⟩)), (.int .u8 fr), (.pointer (some ⟨X, 1, none⟩)), (.int .u8 tt), (.pointer (some ⟨X, 2, none⟩)), (.int .i64 am), (.int .i64 er), (.pointer (some ⟨m, 0, none⟩)), (.pointer (some ⟨X, 0, none⟩)), (.int .u8 fr), (.pointer (some ⟨X, 1, none⟩)), (.int .u8 tt), (.pointer (some ⟨X, 2, none⟩)), (.int .i64 am), (.int .i64 er), (.bool false), (.bool false), (.pointer (some ⟨g, 0, none⟩)), (.pointer (some ⟨X, 0, none⟩)), (.int .u8 fr), (.pointer (some ⟨X, 1, none⟩)), (.int .u8 tt), (.int .i64 u1), (.pointer (some ⟨m, 0, none⟩)), (.pointer (some ⟨X, 0, none⟩)), (.int .u8 fr), (.pointer (some ⟨X, 1, none⟩)), (.int .u8 tt), (.int .i64 u1), (.bool false), (.bool false), (.bool false), (.pointer (some ⟨g, 0, none⟩)), (.pointer (some ⟨X, 1, none⟩)), (.int .u8 tt), (.pointer (some ⟨X, 0, none⟩)), (.int .u8 fr), (.int .i64 u2), (.pointer (some ⟨m, 0, none⟩)), (.pointer (some ⟨X, 1, none⟩)), (.int .u8 tt), (.pointer (some ⟨X, 0, none⟩)), (.int .u8 fr), (.int .i64 u2), (.bool false), (.bool false), (.bool false), (.pointer (some ⟨g, 0, none⟩)), s 49, (.pointer (some ⟨m, 0, none⟩)), (.pointer (some ⟨m, 0, none⟩)), (.pointer (some ⟨m, 0, none⟩)), s 53, (.bool true), (.bool false), (.bool false)])
    (PI W base g m f f') (by kernel_rfl) (fun _ => undef) (PI.start hbW hgb hgm KG.out KM.out) ?_
  intro AF hAF
  simp only [List.toList_toArray, List.append_eq, List.cons_append, List.nil_append, puts, Act.put, List.getD_cons_zero, List.getD_cons_succ, List.setIfInBounds_toArray, List.set_cons_succ, List.set_cons_zero] at hAF
  have hAF2 : _ = AF := funext hAF
  subst hAF2
  clear hAF
  refine ⟨?_, ?_⟩
  · simp only [List.toList_toArray, List.append_eq, List.cons_append, List.nil_append, EachF]
    refine ⟨?_, ?_, ?_, ?_, ?_, ?_, ?_, ?_, ?_, ?_, ?_, ?_, ?_, ?_, ?_, ?_, ?_, ?_, ?_, ?_, ?_, ?_, ?_, ?_, ?_, ?_, ?_, ?_, ?_, ?_, ?_, ?_, ?_, ?_, ?_, ?_, ?_, ?_, ?_, ?_, ?_, ?_, ?_, ?_, ?_, ?_, ?_, ?_, ?_, ?_, ?_, ?_, ?_, ?_, ?_, ?_, ?_, trivial⟩
    · intro s D w' hD hW hC hI
      refine .inl ⟨s, fun _ _ _ => rfl, ?_⟩
      with_reducible refine OpTo.plain ?_ ?_
      exact rfl
      have HS := Lib.hid (hI.step (Below.refl _ _) (k := 0) (by decide) (by decide) (by decide) (by decide))
      clear hI hC hW hD
      go_wp2_with fail
      all_goals first | exact HS.out | exact ⟨rfl, HS.out⟩ | rfl | exact ⟨by omega, HS.out⟩
    · intro s D w' hD hW hC hI
      refine .inl ⟨s, fun _ _ _ => rfl, ?_⟩
      with_reducible refine OpTo.plain ?_ ?_
      exact rfl
      have kx := KX.out.keep hI.keep (by omega)
      have hl := kx.lt
      have e0 := kx.cell 0
      have e1 := kx.cell 1
      have e2 := kx.cell 2
      simp at e0 e1 e2
      have HS := Lib.hid (hI.step (Below.refl _ _) (k := 1) (by decide) (by decide) (by decide) (by decide))
      clear hI hC hW hD
      go_wp2_with fail
      all_goals first | exact HS.out | exact ⟨rfl, HS.out⟩ | rfl | exact ⟨by omega, HS.out⟩
    · intro s D w' hD hW hC hI
      refine .inl ⟨s, fun _ _ _ => rfl, ?_⟩
      with_reducible refine OpTo.plain ?_ ?_
      exact rfl
      have kx := KX.out.keep hI.keep (by omega)
      have hl := kx.lt
      have e0 := kx.cell 0
      have e1 := kx.cell 1
      have e2 := kx.cell 2
      simp at e0 e1 e2
      have HS := Lib.hid (hI.step (Below.refl _ _) (k := 2) (by decide) (by decide) (by decide) (by decide))
      clear hI hC hW hD
      go_wp2_with fail
      all_goals first | exact HS.out | exact ⟨rfl, HS.out⟩ | rfl | exact ⟨by omega, HS.out⟩
    · intro s D w' hD hW hC hI
      refine .inl ⟨s, fun _ _ _ => rfl, ?_⟩
      with_reducible refine OpTo.plain ?_ ?_
      exact rfl
      have kx := KX.out.keep hI.keep (by omega)
      have hl := kx.lt
      have e0 := kx.cell 0
      have e1 := kx.cell 1
      have e2 := kx.cell 2
      simp at e0 e1 e2
      have HS := Lib.hid (hI.step (Below.refl _ _) (k := 3) (by decide) (by decide) (by decide) (by decide))
      clear hI hC hW hD
      go_wp2_with fail
      all_goals first | exact HS.out | exact ⟨rfl, HS.out⟩ | rfl | exact ⟨by omega, HS.out⟩
    · intro s D w' hD hW hC hI
      refine .inl ⟨s, fun _ _ _ => rfl, ?_⟩
      with_reducible refine OpTo.plain ?_ ?_
      exact rfl
      have kx := KX.out.keep hI.keep (by omega)
      have hl := kx.lt
      have e0 := kx.cell 0
      have e1 := kx.cell 1
      have e2 := kx.cell 2
      simp at e0 e1 e2
      have HS := Lib.hid (hI.step (Below.refl _ _) (k := 4) (by decide) (by decide) (by decide) (by decide))
      clear hI hC hW hD
      go_wp2_with fail
      all_goals first | exact HS.out | exact ⟨rfl, HS.out⟩ | rfl | exact ⟨by omega, HS.out⟩
    · intro s D w' hD hW hC hI
      refine .inl ⟨s, fun _ _ _ => rfl, ?_⟩
      with_reducible refine OpTo.plain ?_ ?_
      exact rfl
      have kx := KX.out.keep hI.keep (by omega)
      have hl := kx.lt
      have e0 := kx.cell 0
      have e1 := kx.cell 1
      have e2 := kx.cell 2
      simp at e0 e1 e2
      have HS := Lib.hid (hI.step (Below.refl _ _) (k := 5) (by decide) (by decide) (by decide) (by decide))
      clear hI hC hW hD
      go_wp2_with fail
      all_goals first | exact HS.out | exact ⟨rfl, HS.out⟩ | rfl | exact ⟨by omega, HS.out⟩
    · intro s D w' hD hW hC hI
      refine .inl ⟨s, fun _ _ _ => rfl, ?_⟩
      with_reducible refine OpTo.plain ?_ ?_
      exact rfl
      have kx := KX.out.keep hI.keep (by omega)
      have hl := kx.lt
      have e0 := kx.cell 0
      have e1 := kx.cell 1
      have e2 := kx.cell 2
      simp at e0 e1 e2
      have HS := Lib.hid (hI.step (Below.refl _ _) (k := 6) (by decide) (by decide) (by decide) (by decide))
      clear hI hC hW hD
      go_wp2_with fail
      all_goals first | exact HS.out | exact ⟨rfl, HS.out⟩ | rfl | exact ⟨by omega, HS.out⟩
    · intro s D w' hD hW hC hI
      refine .inl ⟨s, fun _ _ _ => rfl, ?_⟩
      with_reducible refine OpTo.plain ?_ ?_
      exact rfl
      have h49 : D 49 = false := need_not hC hD 49 (by kernel_rfl)
      have h53 : D 53 = false := need_not hC hD 53 (by kernel_rfl)
      have HI := Lib.hid hI
      have HC := Lib.hid (gpush_any (hI.not7 hD) HG.out (by decide) (a := fr) (b := tt) hn64.out)
      rw [EE.out, EF.out] at HC
      have HD := Lib.hid hD
      clear hI hC hW hD
      go_wp2_with fail
      refine HC.out.mono ?_
      rintro e w'' ⟨rfl, h1, h2⟩
      exact ⟨rfl, HI.out.one h49 h53 h1 h2⟩
    · intro s D w' hD hW hC hI
      refine .inl ⟨s, fun _ _ _ => rfl, ?_⟩
      with_reducible refine OpTo.plain ?_ ?_
      exact rfl
      have HS := Lib.hid (hI.step (Below.refl _ _) (k := 8) (by decide) (by decide) (by decide) (by decide))
      clear hI hC hW hD
      go_wp2_with fail
      all_goals first | exact HS.out | exact ⟨rfl, HS.out⟩ | rfl | exact ⟨by omega, HS.out⟩
    · intro s D w' hD hW hC hI
      refine .inl ⟨s, fun _ _ _ => rfl, ?_⟩
      with_reducible refine OpTo.plain ?_ ?_
      exact rfl
      have kx := KX.out.keep hI.keep (by omega)
      have hl := kx.lt
      have e0 := kx.cell 0
      have e1 := kx.cell 1
      have e2 := kx.cell 2
      simp at e0 e1 e2
      have HS := Lib.hid (hI.step (Below.refl _ _) (k := 9) (by decide) (by decide) (by decide) (by decide))
      clear hI hC hW hD
      go_wp2_with fail
      all_goals first | exact HS.out | exact ⟨rfl, HS.out⟩ | rfl | exact ⟨by omega, HS.out⟩
    · intro s D w' hD hW hC hI
      refine .inl ⟨s, fun _ _ _ => rfl, ?_⟩
      with_reducible refine OpTo.plain ?_ ?_
      exact rfl
      have kx := KX.out.keep hI.keep (by omega)
      have hl := kx.lt
      have e0 := kx.cell 0
      have e1 := kx.cell 1
      have e2 := kx.cell 2
      simp at e0 e1 e2
      have HS := Lib.hid (hI.step (Below.refl _ _) (k := 10) (by decide) (by decide) (by decide) (by decide))
      clear hI hC hW hD
      go_wp2_with fail
      all_goals first | exact HS.out | exact ⟨rfl, HS.out⟩ | rfl | exact ⟨by omega, HS.out⟩
    · intro s D w' hD hW hC hI
      refine .inl ⟨s, fun _ _ _ => rfl, ?_⟩
      with_reducible refine OpTo.plain ?_ ?_
      exact rfl
      have kx := KX.out.keep hI.keep (by omega)
      have hl := kx.lt
      have e0 := kx.cell 0
      have e1 := kx.cell 1
      have e2 := kx.cell 2
      simp at e0 e1 e2
      have HS := Lib.hid (hI.step (Below.refl _ _) (k := 11) (by decide) (by decide) (by decide) (by decide))
      clear hI hC hW hD
      go_wp2_with fail
      all_goals first | exact HS.out | exact ⟨rfl, HS.out⟩ | rfl | exact ⟨by omega, HS.out⟩
    · intro s D w' hD hW hC hI
      refine .inl ⟨s, fun _ _ _ => rfl, ?_⟩
      with_reducible refine OpTo.plain ?_ ?_
      exact rfl
      have kx := KX.out.keep hI.keep (by omega)
      have hl := kx.lt
      have e0 := kx.cell 0
      have e1 := kx.cell 1
      have e2 := kx.cell 2
      simp at e0 e1 e2
      have HS := Lib.hid (hI.step (Below.refl _ _) (k := 12) (by decide) (by decide) (by decide) (by decide))
      clear hI hC hW hD
      go_wp2_with fail
      all_goals first | exact HS.out | exact ⟨rfl, HS.out⟩ | rfl | exact ⟨by omega, HS.out⟩
    · intro s D w' hD hW hC hI
      refine .inl ⟨s, fun _ _ _ => rfl, ?_⟩
      with_reducible refine OpTo.plain ?_ ?_
      exact rfl
      have kx := KX.out.keep hI.keep (by omega)
      have hl := kx.lt
      have e0 := kx.cell 0
      have e1 := kx.cell 1
      have e2 := kx.cell 2
      simp at e0 e1 e2
      have HS := Lib.hid (hI.step (Below.refl _ _) (k := 13) (by decide) (by decide) (by decide) (by decide))
      clear hI hC hW hD
      go_wp2_with fail
      all_goals first | exact HS.out | exact ⟨rfl, HS.out⟩ | rfl | exact ⟨by omega, HS.out⟩
    · intro s D w' hD hW hC hI
      refine .inl ⟨s, fun _ _ _ => rfl, ?_⟩
      with_reducible refine OpTo.plain ?_ ?_
      exact rfl
      have kx := KX.out.keep hI.keep (by omega)
      have hl := kx.lt
      have e0 := kx.cell 0
      have e1 := kx.cell 1
      have e2 := kx.cell 2
      simp at e0 e1 e2
      have HS := Lib.hid (hI.step (Below.refl _ _) (k := 14) (by decide) (by decide) (by decide) (by decide))
      clear hI hC hW hD
      go_wp2_with fail
      all_goals first | exact HS.out | exact ⟨rfl, HS.out⟩ | rfl | exact ⟨by omega, HS.out⟩
    · intro s D w' hD hW hC hI
      refine .inl ⟨s, fun _ _ _ => rfl, ?_⟩
      with_reducible refine OpTo.plain ?_ ?_
      exact rfl
      have h49 : D 49 = false := need_not hC hD 49 (by kernel_rfl)
      have h53 : D 53 = false := need_not hC hD 53 (by kernel_rfl)
      have HI := Lib.hid hI
      obtain ⟨vl, hR⟩ := hI.not15 hD
      have HC := Lib.hid (rpushG_any hR HG.out.capB (by decide) (by decide) fr tt am)
      unfold PushGPost at HC
      rw [EE2.out, EF2.out] at HC
      clear hR
      have HD := Lib.hid hD
      clear hI hC hW hD
      go_wp2_with fail
      refine HC.out.mono ?_
      rintro e w'' ⟨rfl, vl', h1, h2⟩
      exact ⟨rfl, HI.out.two h49 h53 h1 h2⟩
    · intro s D w' hD hW hC hI
      refine .inl ⟨s, fun _ _ _ => rfl, ?_⟩
      with_reducible refine OpTo.plain ?_ ?_
      exact rfl
      have HS := Lib.hid (hI.step (Below.refl _ _) (k := 16) (by decide) (by decide) (by decide) (by decide))
      clear hI hC hW hD
      go_wp2_with fail
      all_goals first | exact HS.out | exact ⟨rfl, HS.out⟩ | rfl | exact ⟨by omega, HS.out⟩
    · intro s D w' hD hW hC hI
      refine .inl ⟨s, fun _ _ _ => rfl, ?_⟩
      with_reducible refine OpTo.plain ?_ ?_
      exact rfl
      have HS := Lib.hid (hI.step (Below.refl _ _) (k := 17) (by decide) (by decide) (by decide) (by decide))
      clear hI hC hW hD
      go_wp2_with fail
      all_goals first | exact HS.out | exact ⟨rfl, HS.out⟩ | rfl | exact ⟨by omega, HS.out⟩
    · intro s D w' hD hW hC hI
      refine .inl ⟨s, fun _ _ _ => rfl, ?_⟩
      with_reducible refine OpTo.wanted ?_ ?_
      kernel_rfl
      have HS := Lib.hid (hI.step (Below.refl _ _) (k := 18) (by decide) (by decide) (by decide) (by decide))
      clear hI hC hW hD
      go_wp2_with fail
      all_goals first | exact HS.out | exact ⟨rfl, HS.out⟩ | rfl | exact ⟨by omega, HS.out⟩
    · intro s D w' hD hW hC hI
      refine .inl ⟨s, fun _ _ _ => rfl, ?_⟩
      with_reducible refine OpTo.wanted ?_ ?_
      kernel_rfl
      have kx := KX.out.keep hI.keep (by omega)
      have hl := kx.lt
      have e0 := kx.cell 0
      have e1 := kx.cell 1
      have e2 := kx.cell 2
      simp at e0 e1 e2
      have HS := Lib.hid (hI.step (Below.refl _ _) (k := 19) (by decide) (by decide) (by decide) (by decide))
      clear hI hC hW hD
      go_wp2_with fail
      all_goals first | exact HS.out | exact ⟨rfl, HS.out⟩ | rfl | exact ⟨by omega, HS.out⟩
    · intro s D w' hD hW hC hI
      refine .inl ⟨s, fun _ _ _ => rfl, ?_⟩
      with_reducible refine OpTo.wanted ?_ ?_
      kernel_rfl
      have kx := KX.out.keep hI.keep (by omega)
      have hl := kx.lt
      have e0 := kx.cell 0
      have e1 := kx.cell 1
      have e2 := kx.cell 2
      simp at e0 e1 e2
      have HS := Lib.hid (hI.step (Below.refl _ _) (k := 20) (by decide) (by decide) (by decide) (by decide))
      clear hI hC hW hD
      go_wp2_with fail
      all_goals first | exact HS.out | exact ⟨rfl, HS.out⟩ | rfl | exact ⟨by omega, HS.out⟩
    · intro s D w' hD hW hC hI
      refine .inl ⟨s, fun _ _ _ => rfl, ?_⟩
      with_reducible refine OpTo.wanted ?_ ?_
      kernel_rfl
      have kx := KX.out.keep hI.keep (by omega)
      have hl := kx.lt
      have e0 := kx.cell 0
      have e1 := kx.cell 1
      have e2 := kx.cell 2
      simp at e0 e1 e2
      have HS := Lib.hid (hI.step (Below.refl _ _) (k := 21) (by decide) (by decide) (by decide) (by decide))
      clear hI hC hW hD
      go_wp2_with fail
      all_goals first | exact HS.out | exact ⟨rfl, HS.out⟩ | rfl | exact ⟨by omega, HS.out⟩
    · intro s D w' hD hW hC hI
      refine .inl ⟨s, fun _ _ _ => rfl, ?_⟩
      with_reducible refine OpTo.wanted ?_ ?_
      kernel_rfl
      have kx := KX.out.keep hI.keep (by omega)
      have hl := kx.lt
      have e0 := kx.cell 0
      have e1 := kx.cell 1
      have e2 := kx.cell 2
      simp at e0 e1 e2
      have HS := Lib.hid (hI.step (Below.refl _ _) (k := 22) (by decide) (by decide) (by decide) (by decide))
      clear hI hC hW hD
      go_wp2_with fail
      all_goals first | exact HS.out | exact ⟨rfl, HS.out⟩ | rfl | exact ⟨by omega, HS.out⟩
    · intro s D w' hD hW hC hI
      refine .inl ⟨s, fun _ _ _ => rfl, ?_⟩
      with_reducible refine OpTo.wanted ?_ ?_
      kernel_rfl
      have h7 : D 7 = true := need_waited hC hW (by kernel_rfl)
      have HI := Lib.hid hI
      have HC := Lib.hid (gcap_any (hI.done7 h7) HO.out fr tt)
      rw [U1.out] at HC
      clear hI hC hW hD
      go_wp2_with fail
      refine HC.out.mono ?_
      rintro e w' ⟨rfl, rfl⟩
      exact ⟨rfl, HI.out.step (Below.refl _ _) (k := 23) (by decide) (by decide) (by decide) (by decide)⟩
    · intro s D w' hD hW hC hI
      refine .inl ⟨s, fun _ _ _ => rfl, ?_⟩
      with_reducible refine OpTo.wanted ?_ ?_
      kernel_rfl
      have HS := Lib.hid (hI.step (Below.refl _ _) (k := 24) (by decide) (by decide) (by decide) (by decide))
      clear hI hC hW hD
      go_wp2_with fail
      all_goals first | exact HS.out | exact ⟨rfl, HS.out⟩ | rfl | exact ⟨by omega, HS.out⟩
    · intro s D w' hD hW hC hI
      refine .inl ⟨s, fun _ _ _ => rfl, ?_⟩
      with_reducible refine OpTo.wanted ?_ ?_
      kernel_rfl
      have kx := KX.out.keep hI.keep (by omega)
      have hl := kx.lt
      have e0 := kx.cell 0
      have e1 := kx.cell 1
      have e2 := kx.cell 2
      simp at e0 e1 e2
      have HS := Lib.hid (hI.step (Below.refl _ _) (k := 25) (by decide) (by decide) (by decide) (by decide))
      clear hI hC hW hD
      go_wp2_with fail
      all_goals first | exact HS.out | exact ⟨rfl, HS.out⟩ | rfl | exact ⟨by omega, HS.out⟩
    · intro s D w' hD hW hC hI
      refine .inl ⟨s, fun _ _ _ => rfl, ?_⟩
      with_reducible refine OpTo.wanted ?_ ?_
      kernel_rfl
      have kx := KX.out.keep hI.keep (by omega)
      have hl := kx.lt
      have e0 := kx.cell 0
      have e1 := kx.cell 1
      have e2 := kx.cell 2
      simp at e0 e1 e2
      have HS := Lib.hid (hI.step (Below.refl _ _) (k := 26) (by decide) (by decide) (by decide) (by decide))
      clear hI hC hW hD
      go_wp2_with fail
      all_goals first | exact HS.out | exact ⟨rfl, HS.out⟩ | rfl | exact ⟨by omega, HS.out⟩
    · intro s D w' hD hW hC hI
      refine .inl ⟨s, fun _ _ _ => rfl, ?_⟩
      with_reducible refine OpTo.wanted ?_ ?_
      kernel_rfl
      have kx := KX.out.keep hI.keep (by omega)
      have hl := kx.lt
      have e0 := kx.cell 0
      have e1 := kx.cell 1
      have e2 := kx.cell 2
      simp at e0 e1 e2
      have HS := Lib.hid (hI.step (Below.refl _ _) (k := 27) (by decide) (by decide) (by decide) (by decide))
      clear hI hC hW hD
      go_wp2_with fail
      all_goals first | exact HS.out | exact ⟨rfl, HS.out⟩ | rfl | exact ⟨by omega, HS.out⟩
    · intro s D w' hD hW hC hI
      refine .inl ⟨s, fun _ _ _ => rfl, ?_⟩
      with_reducible refine OpTo.wanted ?_ ?_
      kernel_rfl
      have kx := KX.out.keep hI.keep (by omega)
      have hl := kx.lt
      have e0 := kx.cell 0
      have e1 := kx.cell 1
      have e2 := kx.cell 2
      simp at e0 e1 e2
      have HS := Lib.hid (hI.step (Below.refl _ _) (k := 28) (by decide) (by decide) (by decide) (by decide))
      clear hI hC hW hD
      go_wp2_with fail
      all_goals first | exact HS.out | exact ⟨rfl, HS.out⟩ | rfl | exact ⟨by omega, HS.out⟩
    · intro s D w' hD hW hC hI
      refine .inl ⟨s, fun _ _ _ => rfl, ?_⟩
      with_reducible refine OpTo.wanted ?_ ?_
      kernel_rfl
      have h15 : D 15 = true := need_waited hC hW (by kernel_rfl)
      have HI := Lib.hid hI
      obtain ⟨vl, hR⟩ := hI.done15 h15
      have HC := Lib.hid (rcap_any hR fr tt)
      rw [HG2.out.cap, U1.out] at HC
      clear hR
      clear hI hC hW hD
      go_wp2_with fail
      refine HC.out.mono ?_
      rintro e w' ⟨rfl, rfl⟩
      exact ⟨rfl, HI.out.step (Below.refl _ _) (k := 29) (by decide) (by decide) (by decide) (by decide)⟩
    · intro s D w' hD hW hC hI
      refine .inl ⟨s, fun _ _ _ => rfl, ?_⟩
      with_reducible refine OpTo.wanted ?_ ?_
      kernel_rfl
      have HS := Lib.hid (hI.step (Below.refl _ _) (k := 30) (by decide) (by decide) (by decide) (by decide))
      clear hI hC hW hD
      go_wp2_with fail
      all_goals first | exact HS.out | exact ⟨rfl, HS.out⟩ | rfl | exact ⟨by omega, HS.out⟩
    · intro s D w' hD hW hC hI
      refine .inl ⟨s, fun _ _ _ => rfl, ?_⟩
      with_reducible refine OpTo.plain ?_ ?_
      exact rfl
      have HS := Lib.hid (hI.step (Below.refl _ _) (k := 31) (by decide) (by decide) (by decide) (by decide))
      clear hI hC hW hD
      go_wp2_with fail
      all_goals first | exact HS.out | exact ⟨rfl, HS.out⟩ | rfl | exact ⟨by omega, HS.out⟩
    · intro s D w' hD hW hC hI
      refine .inl ⟨s, fun _ _ _ => rfl, ?_⟩
      with_reducible refine OpTo.plain ?_ ?_
      exact rfl
      have HS := Lib.hid (hI.step (Below.refl _ _) (k := 32) (by decide) (by decide) (by decide) (by decide))
      clear hI hC hW hD
      go_wp2_with fail
      all_goals first | exact HS.out | exact ⟨rfl, HS.out⟩ | rfl | exact ⟨by omega, HS.out⟩
    · intro s D w' hD hW hC hI
      refine .inl ⟨s, fun _ _ _ => rfl, ?_⟩
      with_reducible refine OpTo.wanted ?_ ?_
      kernel_rfl
      have HS := Lib.hid (hI.step (Below.refl _ _) (k := 33) (by decide) (by decide) (by decide) (by decide))
      clear hI hC hW hD
      go_wp2_with fail
      all_goals first | exact HS.out | exact ⟨rfl, HS.out⟩ | rfl | exact ⟨by omega, HS.out⟩
    · intro s D w' hD hW hC hI
      refine .inl ⟨s, fun _ _ _ => rfl, ?_⟩
      with_reducible refine OpTo.wanted ?_ ?_
      kernel_rfl
      have kx := KX.out.keep hI.keep (by omega)
      have hl := kx.lt
      have e0 := kx.cell 0
      have e1 := kx.cell 1
      have e2 := kx.cell 2
      simp at e0 e1 e2
      have HS := Lib.hid (hI.step (Below.refl _ _) (k := 34) (by decide) (by decide) (by decide) (by decide))
      clear hI hC hW hD
      go_wp2_with fail
      all_goals first | exact HS.out | exact ⟨rfl, HS.out⟩ | rfl | exact ⟨by omega, HS.out⟩
    · intro s D w' hD hW hC hI
      refine .inl ⟨s, fun _ _ _ => rfl, ?_⟩
      with_reducible refine OpTo.wanted ?_ ?_
      kernel_rfl
      have kx := KX.out.keep hI.keep (by omega)
      have hl := kx.lt
      have e0 := kx.cell 0
      have e1 := kx.cell 1
      have e2 := kx.cell 2
      simp at e0 e1 e2
      have HS := Lib.hid (hI.step (Below.refl _ _) (k := 35) (by decide) (by decide) (by decide) (by decide))
      clear hI hC hW hD
      go_wp2_with fail
      all_goals first | exact HS.out | exact ⟨rfl, HS.out⟩ | rfl | exact ⟨by omega, HS.out⟩
    · intro s D w' hD hW hC hI
      refine .inl ⟨s, fun _ _ _ => rfl, ?_⟩
      with_reducible refine OpTo.wanted ?_ ?_
      kernel_rfl
      have kx := KX.out.keep hI.keep (by omega)
      have hl := kx.lt
      have e0 := kx.cell 0
      have e1 := kx.cell 1
      have e2 := kx.cell 2
      simp at e0 e1 e2
      have HS := Lib.hid (hI.step (Below.refl _ _) (k := 36) (by decide) (by decide) (by decide) (by decide))
      clear hI hC hW hD
      go_wp2_with fail
      all_goals first | exact HS.out | exact ⟨rfl, HS.out⟩ | rfl | exact ⟨by omega, HS.out⟩
    · intro s D w' hD hW hC hI
      refine .inl ⟨s, fun _ _ _ => rfl, ?_⟩
      with_reducible refine OpTo.wanted ?_ ?_
      kernel_rfl
      have kx := KX.out.keep hI.keep (by omega)
      have hl := kx.lt
      have e0 := kx.cell 0
      have e1 := kx.cell 1
      have e2 := kx.cell 2
      simp at e0 e1 e2
      have HS := Lib.hid (hI.step (Below.refl _ _) (k := 37) (by decide) (by decide) (by decide) (by decide))
      clear hI hC hW hD
      go_wp2_with fail
      all_goals first | exact HS.out | exact ⟨rfl, HS.out⟩ | rfl | exact ⟨by omega, HS.out⟩
    · intro s D w' hD hW hC hI
      refine .inl ⟨s, fun _ _ _ => rfl, ?_⟩
      with_reducible refine OpTo.wanted ?_ ?_
      kernel_rfl
      have h7 : D 7 = true := need_waited hC hW (by kernel_rfl)
      have HI := Lib.hid hI
      have HC := Lib.hid (gcap_any (hI.done7 h7) HO.out tt fr)
      rw [U2.out] at HC
      clear hI hC hW hD
      go_wp2_with fail
      refine HC.out.mono ?_
      rintro e w' ⟨rfl, rfl⟩
      exact ⟨rfl, HI.out.step (Below.refl _ _) (k := 38) (by decide) (by decide) (by decide) (by decide)⟩
    · intro s D w' hD hW hC hI
      refine .inl ⟨s, fun _ _ _ => rfl, ?_⟩
      with_reducible refine OpTo.wanted ?_ ?_
      kernel_rfl
      have HS := Lib.hid (hI.step (Below.refl _ _) (k := 39) (by decide) (by decide) (by decide) (by decide))
      clear hI hC hW hD
      go_wp2_with fail
      all_goals first | exact HS.out | exact ⟨rfl, HS.out⟩ | rfl | exact ⟨by omega, HS.out⟩
    · intro s D w' hD hW hC hI
      refine .inl ⟨s, fun _ _ _ => rfl, ?_⟩
      with_reducible refine OpTo.wanted ?_ ?_
      kernel_rfl
      have kx := KX.out.keep hI.keep (by omega)
      have hl := kx.lt
      have e0 := kx.cell 0
      have e1 := kx.cell 1
      have e2 := kx.cell 2
      simp at e0 e1 e2
      have HS := Lib.hid (hI.step (Below.refl _ _) (k := 40) (by decide) (by decide) (by decide) (by decide))
      clear hI hC hW hD
      go_wp2_with fail
      all_goals first | exact HS.out | exact ⟨rfl, HS.out⟩ | rfl | exact ⟨by omega, HS.out⟩
    · intro s D w' hD hW hC hI
      refine .inl ⟨s, fun _ _ _ => rfl, ?_⟩
      with_reducible refine OpTo.wanted ?_ ?_
      kernel_rfl
      have kx := KX.out.keep hI.keep (by omega)
      have hl := kx.lt
      have e0 := kx.cell 0
      have e1 := kx.cell 1
      have e2 := kx.cell 2
      simp at e0 e1 e2
      have HS := Lib.hid (hI.step (Below.refl _ _) (k := 41) (by decide) (by decide) (by decide) (by decide))
      clear hI hC hW hD
      go_wp2_with fail
      all_goals first | exact HS.out | exact ⟨rfl, HS.out⟩ | rfl | exact ⟨by omega, HS.out⟩
    · intro s D w' hD hW hC hI
      refine .inl ⟨s, fun _ _ _ => rfl, ?_⟩
      with_reducible refine OpTo.wanted ?_ ?_
      kernel_rfl
      have kx := KX.out.keep hI.keep (by omega)
      have hl := kx.lt
      have e0 := kx.cell 0
      have e1 := kx.cell 1
      have e2 := kx.cell 2
      simp at e0 e1 e2
      have HS := Lib.hid (hI.step (Below.refl _ _) (k := 42) (by decide) (by decide) (by decide) (by decide))
      clear hI hC hW hD
      go_wp2_with fail
      all_goals first | exact HS.out | exact ⟨rfl, HS.out⟩ | rfl | exact ⟨by omega, HS.out⟩
    · intro s D w' hD hW hC hI
      refine .inl ⟨s, fun _ _ _ => rfl, ?_⟩
      with_reducible refine OpTo.wanted ?_ ?_
      kernel_rfl
      have kx := KX.out.keep hI.keep (by omega)
      have hl := kx.lt
      have e0 := kx.cell 0
      have e1 := kx.cell 1
      have e2 := kx.cell 2
      simp at e0 e1 e2
      have HS := Lib.hid (hI.step (Below.refl _ _) (k := 43) (by decide) (by decide) (by decide) (by decide))
      clear hI hC hW hD
      go_wp2_with fail
      all_goals first | exact HS.out | exact ⟨rfl, HS.out⟩ | rfl | exact ⟨by omega, HS.out⟩
    · intro s D w' hD hW hC hI
      refine .inl ⟨s, fun _ _ _ => rfl, ?_⟩
      with_reducible refine OpTo.wanted ?_ ?_
      kernel_rfl
      have h15 : D 15 = true := need_waited hC hW (by kernel_rfl)
      have HI := Lib.hid hI
      obtain ⟨vl, hR⟩ := hI.done15 h15
      have HC := Lib.hid (rcap_any hR tt fr)
      rw [HG2.out.cap, U2.out] at HC
      clear hR
      clear hI hC hW hD
      go_wp2_with fail
      refine HC.out.mono ?_
      rintro e w' ⟨rfl, rfl⟩
      exact ⟨rfl, HI.out.step (Below.refl _ _) (k := 44) (by decide) (by decide) (by decide) (by decide)⟩
    · intro s D w' hD hW hC hI
      refine .inl ⟨s, fun _ _ _ => rfl, ?_⟩
      with_reducible refine OpTo.wanted ?_ ?_
      kernel_rfl
      have HS := Lib.hid (hI.step (Below.refl _ _) (k := 45) (by decide) (by decide) (by decide) (by decide))
      clear hI hC hW hD
      go_wp2_with fail
      all_goals first | exact HS.out | exact ⟨rfl, HS.out⟩ | rfl | exact ⟨by omega, HS.out⟩
    · intro s D w' hD hW hC hI
      refine .inl ⟨s, fun _ _ _ => rfl, ?_⟩
      with_reducible refine OpTo.plain ?_ ?_
      exact rfl
      have HS := Lib.hid (hI.step (Below.refl _ _) (k := 46) (by decide) (by decide) (by decide) (by decide))
      clear hI hC hW hD
      go_wp2_with fail
      all_goals first | exact HS.out | exact ⟨rfl, HS.out⟩ | rfl | exact ⟨by omega, HS.out⟩
    · intro s D w' hD hW hC hI
      refine .inl ⟨s, fun _ _ _ => rfl, ?_⟩
      with_reducible refine OpTo.plain ?_ ?_
      exact rfl
      have HS := Lib.hid (hI.step (Below.refl _ _) (k := 47) (by decide) (by decide) (by decide) (by decide))
      clear hI hC hW hD
      go_wp2_with fail
      all_goals first | exact HS.out | exact ⟨rfl, HS.out⟩ | rfl | exact ⟨by omega, HS.out⟩
    · intro s D w' hD hW hC hI
      refine .inl ⟨s, fun _ _ _ => rfl, ?_⟩
      with_reducible refine OpTo.wanted ?_ ?_
      kernel_rfl
      have HS := Lib.hid (hI.step (Below.refl _ _) (k := 48) (by decide) (by decide) (by decide) (by decide))
      clear hI hC hW hD
      go_wp2_with fail
      all_goals first | exact HS.out | exact ⟨rfl, HS.out⟩ | rfl | exact ⟨by omega, HS.out⟩
    · intro s D w' hD hW hC hI
      have h7 : D 7 = true := need_waited hC hW (by kernel_rfl)
      have h15 : D 15 = true := need_waited hC hW (by kernel_rfl)
      have HCl := Lib.hid hC
      have HD := Lib.hid hD
      have HI := Lib.hid hI
      have HE := Lib.hid (gedges_any (IsG.of (hI.done7 h7)) HO.out)
      refine .inr ?_
      with_reducible refine OpGets.wanted ?_ ?_
      kernel_rfl
      clear hI hC hW hD
      go_wp2_with fail
      refine HE.out.mono ?_
      rintro e w'' ⟨v, rfl, hv, hb2⟩
      refine ⟨v, rfl, updV s 49 v, vals_put _ (fun s : Nat → Value => [(.pointer (some ⟨g, 0, none⟩)), (.pointer (some ⟨X, 0, none⟩)), (.int .u8 fr), (.pointer (some ⟨X, 1, none⟩)), (.int .u8 tt), (.pointer (some ⟨X, 2, none⟩)), (.int .i64 am), (.int .i64 er), (.pointer (some ⟨m, 0, none⟩)), (.pointer (some ⟨X, 0, none⟩)), (.int .u8 fr), (.pointer (some ⟨X, 1, none⟩)), (.int .u8 tt), (.pointer (some ⟨X, 2, none⟩)), (.int .i64 am), (.int .i64 er), (.bool false), (.bool false), (.pointer (some ⟨g, 0, none⟩)), (.pointer (some ⟨X, 0, none⟩)), (.int .u8 fr), (.pointer (some ⟨X, 1, none⟩)), (.int .u8 tt), (.int .i64 u1), (.pointer (some ⟨m, 0, none⟩)), (.pointer (some ⟨X, 0, none⟩)), (.int .u8 fr), (.pointer (some ⟨X, 1, none⟩)), (.int .u8 tt), (.int .i64 u1), (.bool false), (.bool false), (.bool false), (.pointer (some ⟨g, 0, none⟩)), (.pointer (some ⟨X, 1, none⟩)), (.int .u8 tt), (.pointer (some ⟨X, 0, none⟩)), (.int .u8 fr), (.int .i64 u2), (.pointer (some ⟨m, 0, none⟩)), (.pointer (some ⟨X, 1, none⟩)), (.int .u8 tt), (.pointer (some ⟨X, 0, none⟩)), (.int .u8 fr), (.int .i64 u2), (.bool false), (.bool false), (.bool false), (.pointer (some ⟨g, 0, none⟩)), s 49, (.pointer (some ⟨m, 0, none⟩)), (.pointer (some ⟨m, 0, none⟩)), (.pointer (some ⟨m, 0, none⟩)), s 53, (.bool true), (.bool false), (.bool false)]) s 49 v HCl.out HD.out ?_, rfl, HI.out.three hb2 (hv.base HI.out.base_le)⟩
      intro j hj
      match j, hj with
      | 0, _ => exact .inr rfl
      | 1, _ => exact .inr rfl
      | 2, _ => exact .inr rfl
      | 3, _ => exact .inr rfl
      | 4, _ => exact .inr rfl
      | 5, _ => exact .inr rfl
      | 6, _ => exact .inr rfl
      | 7, _ => exact .inr rfl
      | 8, _ => exact .inr rfl
      | 9, _ => exact .inr rfl
      | 10, _ => exact .inr rfl
      | 11, _ => exact .inr rfl
      | 12, _ => exact .inr rfl
      | 13, _ => exact .inr rfl
      | 14, _ => exact .inr rfl
      | 15, _ => exact .inr rfl
      | 16, _ => exact .inr rfl
      | 17, _ => exact .inr rfl
      | 18, _ => exact .inr rfl
      | 19, _ => exact .inr rfl
      | 20, _ => exact .inr rfl
      | 21, _ => exact .inr rfl
      | 22, _ => exact .inr rfl
      | 23, _ => exact .inr rfl
      | 24, _ => exact .inr rfl
      | 25, _ => exact .inr rfl
      | 26, _ => exact .inr rfl
      | 27, _ => exact .inr rfl
      | 28, _ => exact .inr rfl
      | 29, _ => exact .inr rfl
      | 30, _ => exact .inr rfl
      | 31, _ => exact .inr rfl
      | 32, _ => exact .inr rfl
      | 33, _ => exact .inr rfl
      | 34, _ => exact .inr rfl
      | 35, _ => exact .inr rfl
      | 36, _ => exact .inr rfl
      | 37, _ => exact .inr rfl
      | 38, _ => exact .inr rfl
      | 39, _ => exact .inr rfl
      | 40, _ => exact .inr rfl
      | 41, _ => exact .inr rfl
      | 42, _ => exact .inr rfl
      | 43, _ => exact .inr rfl
      | 44, _ => exact .inr rfl
      | 45, _ => exact .inr rfl
      | 46, _ => exact .inr rfl
      | 47, _ => exact .inr rfl
      | 48, _ => exact .inr rfl
      | 49, _ => exact .inl (.inl rfl)
      | 50, _ => exact .inr rfl
      | 51, _ => exact .inr rfl
      | 52, _ => exact .inr rfl
      | 53, _ => exact .inr rfl
      | 54, _ => exact .inr rfl
      | 55, _ => exact .inr rfl
      | 56, _ => exact .inr rfl
      | j + 57, _ => exact .inr rfl
    · intro s D w' hD hW hC hI
      refine .inl ⟨s, fun _ _ _ => rfl, ?_⟩
      with_reducible refine OpTo.wanted ?_ ?_
      kernel_rfl
      have HS := Lib.hid (hI.step (Below.refl _ _) (k := 50) (by decide) (by decide) (by decide) (by decide))
      clear hI hC hW hD
      go_wp2_with fail
      all_goals first | exact HS.out | exact ⟨rfl, HS.out⟩ | rfl | exact ⟨by omega, HS.out⟩
    · intro s D w' hD hW hC hI
      refine .inl ⟨s, fun _ _ _ => rfl, ?_⟩
      with_reducible refine OpTo.wanted ?_ ?_
      kernel_rfl
      have hml := hI.ltm
      have HS := Lib.hid (hI.step (Below.refl _ _) (k := 51) (by decide) (by decide) (by decide) (by decide))
      clear hI hC hW hD
      go_wp2_with fail
      all_goals first | exact HS.out | exact ⟨rfl, HS.out⟩ | rfl | exact ⟨by omega, HS.out⟩
    · intro s D w' hD hW hC hI
      refine .inl ⟨s, fun _ _ _ => rfl, ?_⟩
      with_reducible refine OpTo.wanted ?_ ?_
      kernel_rfl
      have hml := hI.ltm
      have HS := Lib.hid (hI.step (Below.refl _ _) (k := 52) (by decide) (by decide) (by decide) (by decide))
      clear hI hC hW hD
      go_wp2_with fail
      all_goals first | exact HS.out | exact ⟨rfl, HS.out⟩ | rfl | exact ⟨by omega, HS.out⟩
    · intro s D w' hD hW hC hI
      have h7 : D 7 = true := need_waited hC hW (by kernel_rfl)
      have h15 : D 15 = true := need_waited hC hW (by kernel_rfl)
      have HCl := Lib.hid hC
      have HD := Lib.hid hD
      have HI := Lib.hid hI
      obtain ⟨vl, hR⟩ := hI.done15 h15
      have HR := Lib.hid hR
      have dm := hR.blk.cell 0
      have hml := hR.blk.lt
      simp at dm
      have HE := Lib.hid (Reads.of_owns hR.row (by have := prefE_len f' 256; unfold allE; omega))
      clear hR
      refine .inr ?_
      with_reducible refine OpGets.wanted ?_ ?_
      kernel_rfl
      clear hI hC hW hD
      go_wp2_with fail
      refine ⟨vl, rfl, updV s 53 vl, vals_put _ (fun s : Nat → Value => [(.pointer (some ⟨g, 0, none⟩)), (.pointer (some ⟨X, 0, none⟩)), (.int .u8 fr), (.pointer (some ⟨X, 1, none⟩)), (.int .u8 tt), (.pointer (some ⟨X, 2, none⟩)), (.int .i64 am), (.int .i64 er), (.pointer (some ⟨m, 0, none⟩)), (.pointer (some ⟨X, 0, none⟩)), (.int .u8 fr), (.pointer (some ⟨X, 1, none⟩)), (.int .u8 tt), (.pointer (some ⟨X, 2, none⟩)), (.int .i64 am), (.int .i64 er), (.bool false), (.bool false), (.pointer (some ⟨g, 0, none⟩)), (.pointer (some ⟨X, 0, none⟩)), (.int .u8 fr), (.pointer (some ⟨X, 1, none⟩)), (.int .u8 tt), (.int .i64 u1), (.pointer (some ⟨m, 0, none⟩)), (.pointer (some ⟨X, 0, none⟩)), (.int .u8 fr), (.pointer (some ⟨X, 1, none⟩)), (.int .u8 tt), (.int .i64 u1), (.bool false), (.bool false), (.bool false), (.pointer (some ⟨g, 0, none⟩)), (.pointer (some ⟨X, 1, none⟩)), (.int .u8 tt), (.pointer (some ⟨X, 0, none⟩)), (.int .u8 fr), (.int .i64 u2), (.pointer (some ⟨m, 0, none⟩)), (.pointer (some ⟨X, 1, none⟩)), (.int .u8 tt), (.pointer (some ⟨X, 0, none⟩)), (.int .u8 fr), (.int .i64 u2), (.bool false), (.bool false), (.bool false), (.pointer (some ⟨g, 0, none⟩)), s 49, (.pointer (some ⟨m, 0, none⟩)), (.pointer (some ⟨m, 0, none⟩)), (.pointer (some ⟨m, 0, none⟩)), s 53, (.bool true), (.bool false), (.bool false)]) s 53 vl HCl.out HD.out ?_, rfl, HI.out.four HE.out⟩
      intro j hj
      match j, hj with
      | 0, _ => exact .inr rfl
      | 1, _ => exact .inr rfl
      | 2, _ => exact .inr rfl
      | 3, _ => exact .inr rfl
      | 4, _ => exact .inr rfl
      | 5, _ => exact .inr rfl
      | 6, _ => exact .inr rfl
      | 7, _ => exact .inr rfl
      | 8, _ => exact .inr rfl
      | 9, _ => exact .inr rfl
      | 10, _ => exact .inr rfl
      | 11, _ => exact .inr rfl
      | 12, _ => exact .inr rfl
      | 13, _ => exact .inr rfl
      | 14, _ => exact .inr rfl
      | 15, _ => exact .inr rfl
      | 16, _ => exact .inr rfl
      | 17, _ => exact .inr rfl
      | 18, _ => exact .inr rfl
      | 19, _ => exact .inr rfl
      | 20, _ => exact .inr rfl
      | 21, _ => exact .inr rfl
      | 22, _ => exact .inr rfl
      | 23, _ => exact .inr rfl
      | 24, _ => exact .inr rfl
      | 25, _ => exact .inr rfl
      | 26, _ => exact .inr rfl
      | 27, _ => exact .inr rfl
      | 28, _ => exact .inr rfl
      | 29, _ => exact .inr rfl
      | 30, _ => exact .inr rfl
      | 31, _ => exact .inr rfl
      | 32, _ => exact .inr rfl
      | 33, _ => exact .inr rfl
      | 34, _ => exact .inr rfl
      | 35, _ => exact .inr rfl
      | 36, _ => exact .inr rfl
      | 37, _ => exact .inr rfl
      | 38, _ => exact .inr rfl
      | 39, _ => exact .inr rfl
      | 40, _ => exact .inr rfl
      | 41, _ => exact .inr rfl
      | 42, _ => exact .inr rfl
      | 43, _ => exact .inr rfl
      | 44, _ => exact .inr rfl
      | 45, _ => exact .inr rfl
      | 46, _ => exact .inr rfl
      | 47, _ => exact .inr rfl
      | 48, _ => exact .inr rfl
      | 49, _ => exact .inr rfl
      | 50, _ => exact .inr rfl
      | 51, _ => exact .inr rfl
      | 52, _ => exact .inr rfl
      | 53, _ => exact .inl (.inl rfl)
      | 54, _ => exact .inr rfl
      | 55, _ => exact .inr rfl
      | 56, _ => exact .inr rfl
      | j + 57, _ => exact .inr rfl
    · intro s D w' hD hW hC hI
      refine .inl ⟨s, fun _ _ _ => rfl, ?_⟩
      with_reducible refine OpTo.wanted ?_ ?_
      kernel_rfl
      have h49 : D 49 = true := need_waited hC hW (by kernel_rfl)
      have h53 : D 53 = true := need_waited hC hW (by kernel_rfl)
      have HI := Lib.hid hI
      have HC := Lib.hid (SameFlows_any ((hI.at49 h49).reads (by have := prefE_len f' 256; unfold allE; omega)) (hI.at53 h53))
      rw [decide_eq_true rfl] at HC
      clear hI hC hW hD
      go_wp2_with fail
      refine HC.out.mono ?_
      rintro e w'' ⟨rfl, hb2⟩
      exact ⟨rfl, HI.out.step hb2 (k := 54) (by decide) (by decide) (by decide) (by decide)⟩
    · intro s D w' hD hW hC hI
      refine .inl ⟨s, fun _ _ _ => rfl, ?_⟩
      with_reducible refine OpTo.wanted ?_ ?_
      kernel_rfl
      have HS := Lib.hid (hI.step (Below.refl _ _) (k := 55) (by decide) (by decide) (by decide) (by decide))
      clear hI hC hW hD
      go_wp2_with fail
      all_goals first | exact HS.out | exact ⟨rfl, HS.out⟩ | rfl | exact ⟨by omega, HS.out⟩
    · intro s D w' hD hW hC hI
      refine .inl ⟨s, fun _ _ _ => rfl, ?_⟩
      with_reducible refine OpTo.plain ?_ ?_
      exact rfl
      have HS := Lib.hid (hI.step (Below.refl _ _) (k := 56) (by decide) (by decide) (by decide) (by decide))
      clear hI hC hW hD
      go_wp2_with fail
      all_goals first | exact HS.out | exact ⟨rfl, HS.out⟩ | rfl | exact ⟨by omega, HS.out⟩
  intro s D w6 hall hI
  obtain ⟨vl, hR⟩ := hI.done15 (hall 15 (by decide))
  exact HQ.out w6 (s 49) (s 53) ⟨hI.keep, hI.done7 (hall 7 (by decide)), vl, hR⟩

end Go.Proofs.Ytdpkcamhafkkbaa
