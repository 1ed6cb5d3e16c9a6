/-
  countinghouseref04: Best, the walk.
-/
import Derived.Test.YtdbdeodcldogmaaRef04f
import Derived.Test.YtdbdeodcldogmaaPB2
namespace Go.Proofs.Ytdbdeodcldogmaa
open Go.RowKit
set_option linter.unusedSimpArgs false
set_option linter.unusedVariables false

theorem run_slice_nil {P : Program} (w : World) (t e : TypeId) (ht : P.underlying t = some (.slice e)) (hs : (sizeOf e).run P w = .ok 7 w) :
    (Instr.sliceAt t (.slice none 0 0) none (some (.int .i64 0)) none).run P w = .ok (.slice none 0 0) w := by
  simp [Instr.sliceAt, Instr.slice, run_underlying ht, Instr.sliceBounds, run_sliceBound, hs, Result.andThen, Addr.add]
theorem run_slice_nil2 {P : Program} (w : World) (t e : TypeId) (ht : P.underlying t = some (.slice e)) (hs : (sizeOf e).run P w = .ok 7 w) :
    (Instr.sliceAt t (.slice none 0 0) (some (.int .i64 0)) none none).run P w = .ok (.slice none 0 0) w := by
  simp [Instr.sliceAt, Instr.slice, run_underlying ht, Instr.sliceBounds, run_sliceBound, hs, Result.andThen, Addr.add]
/-- 'append(v, out[j:]...)'. -/
theorem run_app_tail {w : World} {base : Nat} {v : Value} {n : Nat} {xs : List Value} (hown : w.ownsRow base 39 7 v n xs) (hn : n ≤ 1000) (b cap j : Nat) (out : List Of) (hj : j ≤ out.length) (hcap : out.length ≤ cap)
    (hc : ∀ q, q < out.length * 7 → w.cell? ⟨b, q, none⟩ = (ofCells out)[q]?) (hl : out.length ≤ 1000) (ty : TypeId) (hb : base ≤ w.heap.size) :
    ∃ v' w', (Builtin.append_ #[50, 50] ty #[v, .slice (some (tailAt b j cap)) (out.length - j) (cap - j)]).run Try.prog w = .ok v' w' ∧ w'.ownsRow base 39 7 v' (n + (out.length - j)) (xs ++ ofCells (out.drop j)) ∧ w.grownBy w' v.ownBlock := by
  unfold tailAt
  by_cases h : cap = j
  · rw [if_pos h]
    exact run_app_off hown hn b 0 (out.length - j) (cap - j) (by omega) (out.drop j) (by rw [List.length_drop]) (fun q hq => by omega) ty hb
  · rw [if_neg h]
    exact run_app_off hown hn b (j * 7) (out.length - j) (cap - j) (by omega) (out.drop j) (by rw [List.length_drop]) (fun q hq => by rw [ofCells_drop out hj, hc _ (by omega)]) ty hb
set_option maxHeartbeats 4000000 in
set_option maxRecDepth 100000 in
theorem best_r11 {W : World} {base j : Nat} {v : Value} {out : List Of} (HO : Hid (W.ownsRow base 39 7 v out.length (ofCells out))) (hj : j ≤ out.length) (hl : out.length ≤ 500) {Q : Exit → Act → World → Prop} {c0 c1 c2 c3 c4 c5 c6 c8 c9 c12 c13 c14 c15 c16 c17 c18 c19 c20 c21 c22 c23 c24 c25 c26 c27 c28 c29 c30 c31 c32 c33 c34 c35 c36 c37 c38 c39 c40 c41 c42 c43 c44 c45 c46 c47 c48 c49 c50 c51 c52 c53 c54 c55 c56 c57 c58 c59 c60 c61 c62 c63 c64 c65 c66 c67 c68 c69 : Value}
    (hq : ∀ (v1 : Value) (d55 d56 d57 d58 : Value) w6, (w6.ownsRow W.heap.size 39 7 v1 j (ofCells (out.take j)) ∧ Below W.heap.size W w6) → Q .normal ⟨#[c0, c1, c2, c3, c4, c5, c6, v, c8, c9, (.int .i64 (j : Nat)), v1, c12, c13, c14, c15, c16, c17, c18, c19, c20, c21, c22, c23, c24, c25, c26, c27, c28, c29, c30, c31, c32, c33, c34, c35, c36, c37, c38, c39, c40, c41, c42, c43, c44, c45, c46, c47, c48, c49, c50, c51, c52, c53, c54, d55, d56, d57, d58, v1, c60, c61, c62, c63, c64, c65, c66, c67, c68, c69], []⟩ w6) :
    Code.wp Try.prog (((Try.f27.body).bind (regionNo 11)).getD .skip) Q ⟨#[c0, c1, c2, c3, c4, c5, c6, v, c8, c9, (.int .i64 (j : Nat)), (.slice none 0 0), c12, c13, c14, c15, c16, c17, c18, c19, c20, c21, c22, c23, c24, c25, c26, c27, c28, c29, c30, c31, c32, c33, c34, c35, c36, c37, c38, c39, c40, c41, c42, c43, c44, c45, c46, c47, c48, c49, c50, c51, c52, c53, c54, c55, c56, c57, c58, c59, c60, c61, c62, c63, c64, c65, c66, c67, c68, c69], []⟩ W := by
  conv => arg 2; whnf
  have HQ := Lib.hid hq
  clear hq
  rcases HO.out.2 with ⟨rfl, hn0⟩ | ⟨b, cap, cur, rfl, hbw, hcur, hnc, hcm, hsz, htk⟩
  · have hj0 : j = 0 := by omega
    subst hj0
    have hr1 := fun ty => run_app_none (w := W) (base := W.heap.size) (v := .slice none 0 0) (n := 0) (xs := []) (World.ownsRow_nil _ _ _ _) ty
    have hs := fun w => run_slice_nil (P := Try.prog) w 50 39 Try.underlying50 (Try.sizeOf39 w)
    go_wp2_with (at_builtin; refine wpList_append_pair rfl (.tmp 55) (.tmp 58) 50 rfl rfl rfl (hr1 _) ?_)
    exact HQ.out _ _ _ _ _ _ ⟨by simpa [ofCells] using World.ownsRow_nil W W.heap.size _ _, Below.refl _ _⟩
  · have hc : ∀ q, q < out.length * 7 → W.cell? ⟨b, q, none⟩ = (ofCells out)[q]? := fun q hq => by
      have := HO.out.cellAt q hq
      exact this
    obtain ⟨v1, u1, hr1, ho1, hg1⟩ := run_app_off (w := W) (base := W.heap.size) (v := .slice none 0 0) (n := 0) (xs := []) (World.ownsRow_nil _ _ _ _) (by omega) b 0 j cap (by omega) (out.take j) (by rw [List.length_take]; omega) (fun q hq => by rw [Nat.zero_add, hc q (by omega), ofCells_take out (by omega) hq]) 50 (Nat.le_refl _)
    rw [Nat.zero_add, List.nil_append] at ho1
    have c1 : Below W.heap.size W u1 := (Below.refl _ _).grown hg1 (Nat.le_refl _) (fun k hk => by cases hk)
    have HE := Lib.hid (And.intro ho1 c1)
    have hic : j ≤ cap := by omega
    unfold maxLen at hcm
    clear hc ho1 hg1 c1 hcur htk hsz
    go_wp2_with (at_builtin; refine wpList_append_pair rfl (.tmp 55) (.tmp 58) 50 rfl rfl rfl hr1 ?_)
    exact HQ.out _ _ _ _ _ _ HE.out
set_option maxHeartbeats 4000000 in
set_option maxRecDepth 100000 in
theorem best_r12 {W : World} {base X : Nat} {v : Value} {ls : List Of} {x : Of} (HO : Hid (W.ownsRow base 39 7 v ls.length (ofCells ls))) (KX : Hid (Blk W X #[.int .u64 x.se, .int .u8 x.ow, .int .u8 x.sl, .int .u8 x.bu, .int .i64 x.lf, .int .i64 x.nu, .int .i64 x.de] 39)) (hb : base ≤ W.heap.size) (hl : ls.length ≤ 500) {Q : Exit → Act → World → Prop} {c0 c1 c2 c3 c4 c5 c6 c7 c8 c10 c12 c13 c14 c15 c16 c17 c18 c19 c20 c21 c22 c23 c24 c25 c26 c27 c28 c29 c30 c31 c32 c33 c34 c35 c36 c37 c38 c39 c40 c41 c42 c43 c44 c45 c46 c47 c48 c49 c50 c51 c52 c53 c54 c55 c56 c57 c58 c59 c60 c61 c62 c63 c64 c65 c66 c67 c68 c69 : Value}
    (hq : ∀ (v2 : Value) (d60 d61 d62 : Value) w6, (w6.ownsRow base 39 7 v2 (ls ++ [x]).length (ofCells (ls ++ [x])) ∧ ∀ B, B ≤ base → Below B W w6) → Q .normal ⟨#[c0, c1, c2, c3, c4, c5, c6, c7, c8, (.pointer (some ⟨X, 0, none⟩)), c10, v2, c12, c13, c14, c15, c16, c17, c18, c19, c20, c21, c22, c23, c24, c25, c26, c27, c28, c29, c30, c31, c32, c33, c34, c35, c36, c37, c38, c39, c40, c41, c42, c43, c44, c45, c46, c47, c48, c49, c50, c51, c52, c53, c54, c55, c56, c57, c58, c59, d60, d61, d62, v2, c64, c65, c66, c67, c68, c69], []⟩ w6) :
    Code.wp Try.prog (((Try.f27.body).bind (regionNo 12)).getD .skip) Q ⟨#[c0, c1, c2, c3, c4, c5, c6, c7, c8, (.pointer (some ⟨X, 0, none⟩)), c10, v, c12, c13, c14, c15, c16, c17, c18, c19, c20, c21, c22, c23, c24, c25, c26, c27, c28, c29, c30, c31, c32, c33, c34, c35, c36, c37, c38, c39, c40, c41, c42, c43, c44, c45, c46, c47, c48, c49, c50, c51, c52, c53, c54, c55, c56, c57, c58, c59, c60, c61, c62, c63, c64, c65, c66, c67, c68, c69], []⟩ W := by
  conv => arg 2; whnf
  have HQ := Lib.hid hq
  clear hq
  have kl := KX.out.lt
  have y0 := KX.out.cell 0; have y1 := KX.out.cell 1; have y2 := KX.out.cell 2; have y3 := KX.out.cell 3; have y4 := KX.out.cell 4; have y5 := KX.out.cell 5; have y6 := KX.out.cell 6
  simp at y0 y1 y2 y3 y4 y5 y6
  go_wp2_with (at_builtin; refine wpList_append_of _ rfl (.tmp 60) (.tmp 62) rfl base _ ls rfl (HO.out.alloc _) _ _ x rfl (Blk.new _ _ _) (by omega) (by simp; omega) ?_)
  intro v2 u2 ho2 hg2
  have ho3 : u2.ownsRow base 39 7 v2 (ls ++ [x]).length (ofCells (ls ++ [x])) := by simpa using ho2
  have c2 : ∀ B, B ≤ base → Below B W u2 := fun B hB => ((Below.refl B W).alloc (Nat.le_trans hB hb) _).grown hg2 (by simp; omega) (fun k hk => Nat.le_trans hB (owns_type HO.out hk).1)
  have HE := Lib.hid (And.intro ho3 c2)
  clear ho2 ho3 hg2 c2
  go_wp2_with fail
  exact HQ.out _ _ _ _ _ HE.out
set_option maxHeartbeats 4000000 in
set_option maxRecDepth 100000 in
theorem best_r13 {W : World} {base base2 j n : Nat} {v v2 : Value} {out : List Of} {xs : List Value} (HO : Hid (W.ownsRow base2 39 7 v out.length (ofCells out))) (H2 : Hid (W.ownsRow base 39 7 v2 n xs)) (hj : j ≤ out.length) (hl : out.length ≤ 500) (hn : n ≤ 1000) (hb : base ≤ W.heap.size) {Q : Exit → Act → World → Prop} {c0 c1 c2 c3 c4 c5 c6 c8 c9 c12 c13 c14 c15 c16 c17 c18 c19 c20 c21 c22 c23 c24 c25 c26 c27 c28 c29 c30 c31 c32 c33 c34 c35 c36 c37 c38 c39 c40 c41 c42 c43 c44 c45 c46 c47 c48 c49 c50 c51 c52 c53 c54 c55 c56 c57 c58 c59 c60 c61 c62 c63 c64 c65 c66 c67 c68 c69 : Value}
    (hq : ∀ (v3 : Value) (d64 d65 d66 d67 : Value) w6, (w6.ownsRow base 39 7 v3 (n + (out.length - j)) (xs ++ ofCells (out.drop j)) ∧ ∀ B, B ≤ base → Below B W w6) → Q .normal ⟨#[c0, c1, c2, c3, c4, c5, c6, v3, c8, c9, (.int .i64 (j : Nat)), v2, c12, c13, c14, c15, c16, c17, c18, c19, c20, c21, c22, c23, c24, c25, c26, c27, c28, c29, c30, c31, c32, c33, c34, c35, c36, c37, c38, c39, c40, c41, c42, c43, c44, c45, c46, c47, c48, c49, c50, c51, c52, c53, c54, c55, c56, c57, c58, c59, c60, c61, c62, c63, d64, d65, d66, d67, v3, c69], []⟩ w6) :
    Code.wp Try.prog (((Try.f27.body).bind (regionNo 13)).getD .skip) Q ⟨#[c0, c1, c2, c3, c4, c5, c6, v, c8, c9, (.int .i64 (j : Nat)), v2, c12, c13, c14, c15, c16, c17, c18, c19, c20, c21, c22, c23, c24, c25, c26, c27, c28, c29, c30, c31, c32, c33, c34, c35, c36, c37, c38, c39, c40, c41, c42, c43, c44, c45, c46, c47, c48, c49, c50, c51, c52, c53, c54, c55, c56, c57, c58, c59, c60, c61, c62, c63, c64, c65, c66, c67, c68, c69], []⟩ W := by
  conv => arg 2; whnf
  have HQ := Lib.hid hq
  clear hq
  rcases HO.out.2 with ⟨rfl, hn0⟩ | ⟨b, cap, cur, rfl, hbw, hcur, hnc, hcm, hsz, htk⟩
  · have hj0 : j = 0 := by omega
    subst hj0
    have hr1 := fun ty => run_app_none (w := W) H2.out ty
    have hs := fun w => run_slice_nil2 (P := Try.prog) w 50 39 Try.underlying50 (Try.sizeOf39 w)
    have hd : out.drop 0 = [] := List.eq_nil_of_length_eq_zero (by rw [List.drop_zero]; exact hn0)
    have HE := Lib.hid (show W.ownsRow base 39 7 v2 (n + (out.length - 0)) (xs ++ ofCells (out.drop 0)) ∧ ∀ B, B ≤ base → Below B W W from ⟨by rw [hd, hn0]; simpa [ofCells] using H2.out, fun B _ => Below.refl _ _⟩)
    clear hd
    go_wp2_with (at_builtin; refine wpList_append_pair rfl (.tmp 64) (.tmp 67) 50 rfl rfl rfl (hr1 _) ?_)
    exact HQ.out _ _ _ _ _ _ HE.out
  · have hc : ∀ q, q < out.length * 7 → W.cell? ⟨b, q, none⟩ = (ofCells out)[q]? := fun q hq => HO.out.cellAt q hq
    obtain ⟨v3, u3, hr3, ho3, hg3⟩ := run_app_tail H2.out hn b cap j out hj hnc hc (by omega) 50 hb
    have c3 : ∀ B, B ≤ base → Below B W u3 := fun B hB => (Below.refl _ _).grown hg3 (Nat.le_trans hB hb) (fun k hk => Nat.le_trans hB (owns_type H2.out hk).1)
    have HE := Lib.hid (And.intro ho3 c3)
    have hs := run_slice_tail (P := Try.prog) W 50 39 Try.underlying50 (Try.sizeOf39 _) b out.length cap j hj hnc (j : Int) rfl
    unfold maxLen at hcm
    clear hc ho3 hg3 c3 hcur htk hsz
    go_wp2_with (at_builtin; refine wpList_append_pair rfl (.tmp 64) (.tmp 67) 50 rfl rfl rfl hr3 ?_)
    exact HQ.out _ _ _ _ _ _ HE.out
def BestPost (w : World) (l : List Of) (s b : Int) (e : Ending) (w' : World) : Prop :=
  ∃ v, e = .returned v ∧ w'.ownsRow w.heap.size 39 7 v (bestO l s b).length (ofCells (bestO l s b)) ∧ Below w.heap.size w w'
def BestAt (w : World) (l : List Of) (s b : Int) (v i : Value) (wr : World) : Prop :=
  ∃ k : Nat, k ≤ l.length ∧ i = .int .i64 k ∧ wr.ownsRow w.heap.size 39 7 v (bestO (l.take k) s b).length (ofCells (bestO (l.take k) s b)) ∧ Below w.heap.size w wr
def BestIn (W : World) (x : Of) (out : List Of) (i : Value) (wr : World) : Prop :=
  ∃ j : Nat, j ≤ out.length ∧ i = .int .i64 j ∧ Hid (∀ y ∈ out.take j, noWorse x y = true) ∧ Below W.heap.size W wr
set_option maxHeartbeats 8000000 in
set_option maxRecDepth 100000 in
theorem bbest_any {w : World} {base g : Nat} {l : List Of} {N : Int} {vl : Value} (h : RefB w base g l N vl) (s bu : Int) (hlen : l.length ≤ 500) :
    Calls Try.prog 27 #[.pointer (some ⟨g, 0, none⟩), .int .u8 s, .int .u8 bu] w (BestPost w l s bu) := by
  have H := Lib.hid h
  obtain ⟨ao, cap0, rfl, hc1, hc2, hc3, hc4⟩ := owns_open h.row
  have HC := Lib.hid hc4
  have hg := h.blk.lt
  unfold maxLen at hc2
  clear hc3 hc4 h
  go_enter Try.func27, Try.ntmps27
  go_wp2_with fail
  go_loopw [7, 8] (BestAt w l s bu) (fun _ i _ => l.length - (intOf i).toNat)
  case atStart => exact ⟨0, Nat.zero_le _, rfl, World.ownsRow_nil _ _ _ _, Below.refl _ _⟩
  case round =>
    obtain ⟨k, hk, rfl, hown, hb⟩ := hrel
    have hlo := bestO_len (l.take k) s bu
    have hlk : (l.take k).length ≤ k := List.length_take_le _ _
    have dg := (H.out.blk.below hb hg).cell 0
    simp at dg
    have hgr := (H.out.blk.below hb hg).lt
    by_cases hkl : k < l.length
    · obtain ⟨b0, rfl, hb1, hb2, hcell, _⟩ := HC.out (by omega)
      obtain ⟨e0, e1, e2, e3, e4, e5, e6⟩ := of_cells (w := wr) (fun j hj => by rw [hb.cell (p := ⟨b0, j, none⟩) hb2]; exact hcell j hj) hkl
      have hbr : b0 < wr.heap.size := Nat.lt_of_lt_of_le hb2 hb.size
      have NX := Lib.hid (bestO_next l s bu k hkl)
      clear hcell
      generalize l[k] = x at *
      generalize bestO (l.take k) s bu = out at *
      have hl2 : out.length ≤ 500 := by omega
      have A0 := (Below.refl wr.heap.size wr).alloc (Nat.le_refl _) (.cells #[.int .u64 x.se, .int .u8 x.ow, .int .u8 x.sl, .int .u8 x.bu, .int .i64 x.lf, .int .i64 x.nu, .int .i64 x.de] 39)
      have BW := Lib.hid (hb.trans (A0.mono hb.size))
      have KX := Lib.hid (Blk.new wr #[.int .u64 x.se, .int .u8 x.ow, .int .u8 x.sl, .int .u8 x.bu, .int .i64 x.lf, .int .i64 x.nu, .int .i64 x.de] 39)
      have OW := Lib.hid (hown.alloc (.cells #[.int .u64 x.se, .int .u8 x.ow, .int .u8 x.sl, .int .u8 x.bu, .int .i64 x.lf, .int .i64 x.nu, .int .i64 x.de] 39))
      clear hown hb A0
      by_cases hs : x.sl = s
      case neg =>
        have q1 : (x.sl == s) = false := by simpa using hs
        have q2 : (x.sl != s) = true := by simpa using hs
        have NX2 : Hid (bestO (l.take (k + 1)) s bu = out) := Lib.hid (by rw [NX.out]; unfold bestStep; rw [if_neg (fun h => hs h.1)])
        clear hs NX
        go_wp2_with fail
        go_roundw
        case rel => exact ⟨k + 1, by omega, by go_num, by rw [NX2.out]; exact OW.out, BW.out⟩
        case measure => simp [intOf]; omega
      by_cases hbu : x.bu = bu
      case neg =>
        have q1 : (x.sl == s) = true := by simpa using hs
        have q2 : (x.sl != s) = false := by simpa using hs
        have q3 : (x.bu == bu) = false := by simpa using hbu
        have q4 : (x.bu != bu) = true := by simpa using hbu
        have NX2 : Hid (bestO (l.take (k + 1)) s bu = out) := Lib.hid (by rw [NX.out]; unfold bestStep; rw [if_neg (fun h => hbu h.2)])
        clear hs hbu NX
        go_wp2_with fail
        go_roundw
        case rel => exact ⟨k + 1, by omega, by go_num, by rw [NX2.out]; exact OW.out, BW.out⟩
        case measure => simp [intOf]; omega
      have q1 : (x.sl == s) = true := by simpa using hs
      have q2 : (x.sl != s) = false := by simpa using hs
      have q3 : (x.bu == bu) = true := by simpa using hbu
      have q4 : (x.bu != bu) = false := by simpa using hbu
      replace NX : Hid (bestO (l.take (k + 1)) s bu = insO out x) := Lib.hid (by rw [NX.out]; unfold bestStep; rw [if_pos ⟨hs, hbu⟩])
      clear hs hbu
      generalize hX : wr.heap.size = X at KX
      have HX := Lib.hid hX
      have OW2 := Lib.hid OW.out
      obtain ⟨ao, cap, hvo, hcl1, hcl2, _, hrow⟩ := owns_open OW.out
      subst hvo
      have HCW : Hid (∀ j, j < out.length → ∃ b, ao = some ⟨b, 0, none⟩ ∧ b < (wr.alloc (.cells #[.int .u64 x.se, .int .u8 x.ow, .int .u8 x.sl, .int .u8 x.bu, .int .i64 x.lf, .int .i64 x.nu, .int .i64 x.de] 39)).heap.size ∧ (wr.alloc (.cells #[.int .u64 x.se, .int .u8 x.ow, .int .u8 x.sl, .int .u8 x.bu, .int .i64 x.lf, .int .i64 x.nu, .int .i64 x.de] 39)).cell? ⟨b, j * 7 + 5, none⟩ = (ofCells out)[j * 7 + 5]? ∧ (wr.alloc (.cells #[.int .u64 x.se, .int .u8 x.ow, .int .u8 x.sl, .int .u8 x.bu, .int .i64 x.lf, .int .i64 x.nu, .int .i64 x.de] 39)).cell? ⟨b, j * 7 + 6, none⟩ = (ofCells out)[j * 7 + 6]?) := Lib.hid (fun j hj => by
        obtain ⟨b, hb, _, hlt, hc, _⟩ := hrow (by omega)
        exact ⟨b, hb, hlt, hc _ (by omega), hc _ (by omega)⟩)
      unfold maxLen at hcl2
      clear hrow OW
      go_wp2_with fail
      try rw [hX]
      generalize wr.alloc (.cells #[.int .u64 x.se, .int .u8 x.ow, .int .u8 x.sl, .int .u8 x.bu, .int .i64 x.lf, .int .i64 x.nu, .int .i64 x.de] 39) = W at *
      go_loopw [10] (BestIn W x out) (fun i _ => out.length - (intOf i).toNat)
      case atStart => exact ⟨0, Nat.zero_le _, rfl, Lib.hid (by simp), Below.refl _ _⟩
      case round =>
        obtain ⟨j, hj, rfl, HJ, hBI⟩ := hrel
        have BI := Lib.hid hBI
        clear hBI
        by_cases hjl : j < out.length
        · obtain ⟨b, rfl, hbW, hc5, hc6⟩ := HCW.out j hjl
          have HB : Hid (b < wr.heap.size) := Lib.hid (Nat.lt_of_lt_of_le hbW BI.out.size)
          have HY5 : Hid (wr.cell? ⟨b, ((j : Nat) : Int).toNat * 7 + 5, none⟩ = some (.int .i64 out[j].nu)) := Lib.hid (by rw [Int.toNat_natCast]; exact ((BI.out.cell (p := ⟨b, j * 7 + 5, none⟩) hbW).trans hc5).trans (ofCells_get out j 5 (by omega) hjl))
          have HY6 : Hid (wr.cell? ⟨b, ((j : Nat) : Int).toNat * 7 + 6, none⟩ = some (.int .i64 out[j].de)) := Lib.hid (by rw [Int.toNat_natCast]; exact ((BI.out.cell (p := ⟨b, j * 7 + 6, none⟩) hbW).trans hc6).trans (ofCells_get out j 6 (by omega) hjl))
          have KX2 := Lib.hid (KX.out.below BI.out KX.out.lt)
          have CC := Lib.hid (fun w' => rcompare_any out[j].nu out[j].de x.nu x.de w')
          have TN := Lib.hid (fun h => take_all_next (q := fun y => noWorse x y = true) hjl HJ.out h)
          have c0 : decide (((j : Nat) : Int) < (out.length : Int)) = true := by simp; omega
          clear hc5 hc6
          by_cases hc : cmpR out[j].nu out[j].de x.nu x.de ≤ 0
          · have hnw := TN.out (show noWorse x out[j] = true by unfold noWorse; simpa using hc)
            have HN := Lib.hid hnw
            have c1 : decide (cmpR out[j].nu out[j].de x.nu x.de ≤ 0) = true := by simpa using hc
            clear hnw TN hc
            go_wp2_with fail
            refine best_le (ao := none) (by omega) (by omega) HB HY5 HY6 KX2 CC (by omega) c0 c1 ?_
            intro w3 b3
            have B3 := Lib.hid (BI.out.trans (b3.mono BI.out.size))
            clear b3 c0 c1 CC HY5 HY6 KX2
            go_wp2_with fail
            go_roundw
            case rel => exact ⟨j + 1, by omega, by go_num, HN, B3.out⟩
            case measure => simp [intOf]; omega
          · have hnw : noWorse x out[j] = false := by unfold noWorse; simpa using hc
            have c1 : decide (cmpR out[j].nu out[j].de x.nu x.de ≤ 0) = false := by simpa using hc
            have HIN := Lib.hid (insO_at (x := x) (l := out) (j := j) HJ.out (fun _ => hnw))
            clear TN hc hnw
            go_wp2_with fail
            refine best_gt (ao := none) (by omega) (by omega) HB HY5 HY6 KX2 CC (by omega) c0 c1 ?_
            clear c0 c1 CC HY5 HY6 KX2 HB
            intro w3 b3
            have B3 := Lib.hid (BI.out.trans (b3.mono BI.out.size))
            have KX3 := Lib.hid (KX.out.below B3.out KX.out.lt)
            have OW3 := Lib.hid (owns_below OW2.out B3.out)
            have BT := Lib.hid (BW.out.trans (B3.out.mono BW.out.size))
            clear b3 BI B3 HJ
            go_upto_region 11 with (fail)
            refine best_r11 OW3 (by omega) hl2 ?_
            rintro v1 d55 d56 d57 d58 w4 ⟨ho4, b4⟩
            have O4 := Lib.hid (show w4.ownsRow w3.heap.size 39 7 v1 (out.take j).length (ofCells (out.take j)) by rw [List.length_take, Nat.min_eq_left (by omega)]; exact ho4)
            have KX4 := Lib.hid (KX3.out.below b4 KX3.out.lt)
            have OW4 := Lib.hid (owns_below OW3.out b4)
            have BT4 := Lib.hid (BT.out.trans (b4.mono BT.out.size))
            have hz4 := b4.size
            clear ho4 b4 KX3
            go_upto_region 12 with (fail)
            refine best_r12 O4 KX4 hz4 (by rw [List.length_take]; omega) ?_
            rintro v2 d60 d61 d62 w5 ⟨ho5, b5⟩
            have O5 := Lib.hid (show w5.ownsRow w3.heap.size 39 7 v2 (j + 1) (ofCells (out.take j ++ [x])) by rw [List.length_append, List.length_take, Nat.min_eq_left (by omega)] at ho5; exact ho5)
            have hb5 := b5 w3.heap.size (Nat.le_refl _)
            have OW5 := Lib.hid (owns_keep OW4.out (⟨hb5.os, hb5.tape, hb5.output, hb5.size, fun k _ hs => hb5.block k (Nat.lt_of_not_le hs)⟩ : Keep (fun b => w3.heap.size ≤ b) w4 w5) (fun b hb hs => by have := (owns_type OW3.out hb).2.1; omega))
            have BT5 := Lib.hid (BT4.out.trans (b5 w.heap.size (by have := BT.out.size; omega)))
            have hz5 := Nat.le_trans hz4 hb5.size
            clear ho5 b5 hb5 KX4 O4 OW4 BT4
            go_upto_region 13 with (fail)
            refine best_r13 OW5 O5 (by omega) hl2 (by omega) hz5 ?_
            rintro v3 d64 d65 d66 d67 w6 ⟨ho6, b6⟩
            have hlen3 : (insO out x).length = j + 1 + (out.length - j) := by rw [insO_len]; omega
            rw [← ofCells_append, List.append_assoc, List.singleton_append, ← HIN.out] at ho6
            have O6 := Lib.hid (owns_base ho6 BT.out.size)
            have B6 := Lib.hid (BT5.out.trans (b6 w.heap.size (by have := BT.out.size; omega)))
            clear ho6 b6 OW5 O5 BT5
            go_wp2_with fail
            go_roundw
            case rel => exact ⟨k + 1, by omega, by go_num, by rw [NX.out, hlen3]; exact O6.out, B6.out⟩
            case measure => simp [intOf]; omega
        · have c0 : decide (((j : Nat) : Int) < (out.length : Int)) = false := by simp; omega
          have HIN := Lib.hid (insO_at (x := x) (l := out) (j := j) HJ.out (fun h => absurd h hjl))
          go_wp2_with fail
          refine best_end (X := X) (x := x) (y := x) (b := 0) (c := 0) (by omega) (by omega) c0 ?_
          clear c0
          intro w3 b3
          have B3 := Lib.hid (BI.out.trans (b3.mono BI.out.size))
          have KX3 := Lib.hid (KX.out.below B3.out KX.out.lt)
          have OW3 := Lib.hid (owns_below OW2.out B3.out)
          have BT := Lib.hid (BW.out.trans (B3.out.mono BW.out.size))
          clear b3 BI B3 HJ
          go_upto_region 11 with (fail)
          refine best_r11 OW3 (by omega) hl2 ?_
          rintro v1 d55 d56 d57 d58 w4 ⟨ho4, b4⟩
          have O4 := Lib.hid (show w4.ownsRow w3.heap.size 39 7 v1 (out.take j).length (ofCells (out.take j)) by rw [List.length_take, Nat.min_eq_left (by omega)]; exact ho4)
          have KX4 := Lib.hid (KX3.out.below b4 KX3.out.lt)
          have OW4 := Lib.hid (owns_below OW3.out b4)
          have BT4 := Lib.hid (BT.out.trans (b4.mono BT.out.size))
          have hz4 := b4.size
          clear ho4 b4 KX3
          go_upto_region 12 with (fail)
          refine best_r12 O4 KX4 hz4 (by rw [List.length_take]; omega) ?_
          rintro v2 d60 d61 d62 w5 ⟨ho5, b5⟩
          have O5 := Lib.hid (show w5.ownsRow w3.heap.size 39 7 v2 (j + 1) (ofCells (out.take j ++ [x])) by rw [List.length_append, List.length_take, Nat.min_eq_left (by omega)] at ho5; exact ho5)
          have hb5 := b5 w3.heap.size (Nat.le_refl _)
          have OW5 := Lib.hid (owns_keep OW4.out (⟨hb5.os, hb5.tape, hb5.output, hb5.size, fun k _ hs => hb5.block k (Nat.lt_of_not_le hs)⟩ : Keep (fun b => w3.heap.size ≤ b) w4 w5) (fun b hb hs => by have := (owns_type OW3.out hb).2.1; omega))
          have BT5 := Lib.hid (BT4.out.trans (b5 w.heap.size (by have := BT.out.size; omega)))
          have hz5 := Nat.le_trans hz4 hb5.size
          clear ho5 b5 hb5 KX4 O4 OW4 BT4
          go_upto_region 13 with (fail)
          refine best_r13 OW5 O5 (by omega) hl2 (by omega) hz5 ?_
          rintro v3 d64 d65 d66 d67 w6 ⟨ho6, b6⟩
          have hlen3 : (insO out x).length = j + 1 + (out.length - j) := by rw [insO_len]; omega
          rw [← ofCells_append, List.append_assoc, List.singleton_append, ← HIN.out] at ho6
          have O6 := Lib.hid (owns_base ho6 BT.out.size)
          have B6 := Lib.hid (BT5.out.trans (b6 w.heap.size (by have := BT.out.size; omega)))
          clear ho6 b6 OW5 O5 BT5
          go_wp2_with fail
          go_roundw
          case rel => exact ⟨k + 1, by omega, by go_num, by rw [NX.out, hlen3]; exact O6.out, B6.out⟩
          case measure => simp [intOf]; omega
    · have hke : l.take k = l := List.take_of_length_le (by omega)
      rw [hke] at hown
      have O0 := Lib.hid hown
      have B0 := Lib.hid hb
      clear hown hb
      go_wp2_with fail
      go_ret
      exact ⟨_, rfl, O0.out, B0.out⟩

end Go.Proofs.Ytdbdeodcldogmaa
