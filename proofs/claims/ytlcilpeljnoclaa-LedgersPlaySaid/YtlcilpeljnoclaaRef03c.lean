/-
  countinghouseref03: set.
-/
import Derived.Test.YtlcilpeljnoclaaRef03b
import Derived.Test.YtlcilpeljnoclaaRegionG
namespace Go.Proofs.Ytlcilpeljnoclaa
open Go.RowKit
set_option linter.unusedSimpArgs false
set_option linter.unusedVariables false

theorem info_lineAll : (Try.prog.info? 35).map (fun i => (i.zero, i.size, i.bytes)) = some (some noLn.val, 5, 24) := by kernel_rfl
/-- 'append(out, y)', of one line that was just laid. -/
theorem wpList_append_line (w : World) {ops : Array Oper} {rest : List Oper} {o : Oper} {a : Act} {Q : Exit → Act → World → Prop} (hgd : o.guard = none) (s x : Operand)
    (ho : o.op = .call { callee := .builtin .append, args := #[s, x], argTypes := #[49, 49] }) (base : Nat) (v : Value) (ls : List Ln) (hs : a.eval s = v)
    (hown : w.ownsRow base 35 5 v ls.length (lnCells ls)) (g c : Nat) (y : Ln) (hx : a.eval x = .slice (some ⟨g, 0, none⟩) 1 c) (hy : Blk w g #[.int .u8 y.cr, .int .u8 y.de, .int .u8 y.cu, .int .i64 y.li, .int .i64 y.db] 35) (hlen : ls.length ≤ 100000) (hbase : base ≤ w.heap.size)
    (h : ∀ v' w', w'.ownsRow base 35 5 v' (ls ++ [y]).length (lnCells (ls ++ [y])) → w.grownBy w' v.ownBlock → wpList Try.prog ops Q rest (a.put o.dst v') w') : wpList Try.prog ops Q (o :: rest) a w := by
  obtain ⟨i0, hi, hz0, hz1, hz2⟩ := info_parts info_lineAll
  refine wpList_append_own w hgd s x 49 ho base 35 i0 noLn.val 5 24 Try.underlying49 hi hz0 hz1 hz2 rfl (by decide) v ls.length (lnCells ls) hs hown ⟨g, 0, none⟩ 1 c y.vals hx rfl ?_ ?_ (by unfold maxLen; omega) (by omega) hbase ?_
  · intro j u hj
    have := hy.cell j
    rw [Go.WideShapes.add_plain]
    match j, hj with
    | 0, hj => simp [Ln.vals] at hj; subst hj; simpa using this
    | 1, hj => simp [Ln.vals] at hj; subst hj; simpa using this
    | 2, hj => simp [Ln.vals] at hj; subst hj; simpa using this
    | 3, hj => simp [Ln.vals] at hj; subst hj; simpa using this
    | 4, hj => simp [Ln.vals] at hj; subst hj; simpa using this
    | j + 5, hj => simp [Ln.vals] at hj
  · intro u hu
    simp [Ln.vals] at hu
    rcases hu with rfl | rfl | rfl | rfl | rfl <;> rfl
  · intro v' w' h1 h2 _
    refine h v' w' ?_ h2
    rw [lnCells_append, lnCells_one, List.length_append]
    exact h1
/-- Behind the store of the new lines. -/
theorem set_done {w w1 : World} {base g : Nat} {ps : List Int} {ls ls' : List Ln} {vp vl v : Value} (h : RefL w base g ps ls vp vl) (hg : g < w.heap.size) (hb : Below w.heap.size w w1) (ho : w1.ownsRow (w.heap.size + 1) 35 5 v ls'.length (lnCells ls')) :
    ∃ vl', RefL (w1.setCell ⟨g, 1, none⟩ v) base g ps ls' vp vl' ∧ Keep (· = g) w (w1.setCell ⟨g, 1, none⟩ v) := by
  have k0 : Keep (· = g) w1 (w1.setCell ⟨g, 1, none⟩ v) := Keep.setCell (S := (· = g)) (Keep.refl _ _) (p := ⟨g, 1, none⟩) (.inl rfl) v
  have hblk := h.blk.below hb hg
  refine ⟨v, ⟨?_, h.ge, ?_, ?_⟩, (Keep.setCell (S := (· = g)) (Keep.of_below hb) (p := ⟨g, 1, none⟩) (.inl rfl) v)⟩
  · have := hblk.set 1 v
    simpa using this
  · have hp := owns_below h.p hb
    exact owns_keep hp k0 (owns_ne hp hblk (by decide))
  · exact owns_keep (owns_base ho (by have := h.ge; omega)) k0 (owns_ne ho hblk (by decide))
/-- At the head of set's loop. -/
def SetAt (ls : List Ln) (x : Ln) (w : World) (v put i : Value) (wr : World) : Prop :=
  ∃ k : Nat, k ≤ ls.length ∧ i = .int .i64 k ∧ put = .bool (setTo (ls.take k) x).2 ∧ wr.ownsRow (w.heap.size + 1) 35 5 v (setTo (ls.take k) x).1.length (lnCells (setTo (ls.take k) x).1) ∧ Below w.heap.size w wr ∧ Blk wr w.heap.size #[.int .u8 x.cr, .int .u8 x.de, .int .u8 x.cu, .int .i64 x.li, .int .i64 x.db] 35
set_option maxHeartbeats 8000000 in
set_option maxRecDepth 100000 in
theorem rset_any {w : World} {base g : Nat} {ps : List Int} {ls : List Ln} {vp vl : Value} (h : RefL w base g ps ls vp vl) (x : Ln) (hx : x.Fits) (hfit : ∀ y ∈ ls, y.Fits) (hlen : ls.length ≤ 1000) :
    Calls Try.prog 63 #[.pointer (some ⟨g, 0, none⟩), x.val] w fun e w' => e = .returned (.tuple #[]) ∧ ∃ vl', RefL w' base g ps (setL ls x) vp vl' ∧ Keep (· = g) w w' := by
  have cx := Lib.hid (fun w => rrank_any x w hx)
  have HF := Lib.hid hfit
  have KX := Lib.hid (Blk.new w #[.int .u8 x.cr, .int .u8 x.de, .int .u8 x.cu, .int .i64 x.li, .int .i64 x.db] 35)
  have BI := Lib.hid ((Below.refl w.heap.size w).alloc (Nat.le_refl _) (.cells #[.int .u8 x.cr, .int .u8 x.de, .int .u8 x.cu, .int .i64 x.li, .int .i64 x.db] 35))
  have H := Lib.hid h
  obtain ⟨ao, cap, rfl, hc1, hc2, hc3, hc4⟩ := owns_open h.l
  have HC := Lib.hid hc4
  have hg := h.blk.lt
  unfold maxLen at hc2
  clear hc3 hc4 h hfit hx
  have hz : ∀ b : Bool, (x.li == 0) = b → Hid ((x.li == 0) = b) := fun b h => h
  unfold Ln.val at cx ⊢
  go_enter Try.func63, Try.ntmps63
  go_wp2_with fail
  go_loopw [4, 5, 6] (SetAt ls x w) (fun _ _ i _ => ls.length - (intOf i).toNat)
  case atStart => exact ⟨0, Nat.zero_le _, rfl, rfl, World.ownsRow_nil _ _ _ _, BI.out, KX.out⟩
  case round =>
    obtain ⟨k, hk, rfl, rfl, hown, hb, hkx⟩ := hrel
    have hlo := setTo_len (ls.take k) x
    have hlk : (ls.take k).length ≤ k := List.length_take_le _ _
    have dg := (H.out.blk.below hb hg).cell 1
    simp at dg
    have hgr := (H.out.blk.below hb hg).lt
    by_cases hkl : k < ls.length
    · have HS := Lib.hid (setTo_take ls x k hkl)
      obtain ⟨b, rfl, hb1, hb2, hcell, _⟩ := HC.out (by omega)
      obtain ⟨e0, e1, e2, e3, e4⟩ := ln_cells (w := wr) (fun j hj => by rw [hb.cell (p := ⟨b, j, none⟩) hb2]; exact hcell j hj) hkl
      have hyf := HF.out ls[k] (List.getElem_mem hkl)
      have hbr : b < wr.heap.size := Nat.lt_of_lt_of_le hb2 hb.size
      clear hcell
      generalize ls[k] = y at *
      generalize setTo (ls.take k) x = s at *
      obtain ⟨out, put⟩ := s
      dsimp only at *
      have cy := Lib.hid (fun w => rrank_any y w hyf)
      unfold Ln.val at cy
      have KY0 := Lib.hid (Blk.new wr #[.int .u8 y.cr, .int .u8 y.de, .int .u8 y.cu, .int .i64 y.li, .int .i64 y.db] 35)
      have KX0 := Lib.hid (hkx.alloc (.cells #[.int .u8 y.cr, .int .u8 y.de, .int .u8 y.cu, .int .i64 y.li, .int .i64 y.db] 35))
      have hrow : ∀ k, Value.ownBlock _ = some k → k < wr.heap.size := fun k hk => (owns_type hown hk).2.1
      have B0 := Lib.hid (hb.alloc hb.size (.cells #[.int .u8 y.cr, .int .u8 y.de, .int .u8 y.cu, .int .i64 y.li, .int .i64 y.db] 35))
      have O0 := Lib.hid (hown.alloc (.cells #[.int .u8 y.cr, .int .u8 y.de, .int .u8 y.cu, .int .i64 y.li, .int .i64 y.db] 35))
      have hgy : w.heap.size + 1 ≤ wr.heap.size := hkx.lt
      clear hown hb hkx hyf
      have hs : (y.rank = x.rank) ∨ (y.rank ≠ x.rank ∧ put = true) ∨ (y.rank ≠ x.rank ∧ put = false ∧ x.rank < y.rank) ∨ (y.rank ≠ x.rank ∧ put = false ∧ ¬ x.rank < y.rank) := by
        cases put <;> simp <;> omega
      rcases hs with h1 | ⟨h1, rfl⟩ | ⟨h1, rfl, h2⟩ | ⟨h1, rfl, h2⟩
      · have q1 : (y.rank == x.rank) = true := by simp [h1]
        have NX : Hid (setTo (ls.take (k + 1)) x = (out, put)) := Lib.hid (by rw [HS.out]; unfold setStep; rw [if_pos h1])
        clear HS h1
        have z0 : w.heap.size + 1 ≤ (wr.alloc (.cells #[.int .u8 y.cr, .int .u8 y.de, .int .u8 y.cu, .int .i64 y.li, .int .i64 y.db] 35)).heap.size := by simp; omega
        go_wp2_with fail
        generalize wr.alloc (.cells #[.int .u8 y.cr, .int .u8 y.de, .int .u8 y.cu, .int .i64 y.li, .int .i64 y.db] 35) = Wy at *
        generalize wr.heap.size = gy at *
        refine region_still (by kernel_rfl) [.agg #[.int .u8 y.cr, .int .u8 y.de, .int .u8 y.cu, .int .i64 y.li, .int .i64 y.db], .int .i64 y.rank, .agg #[.int .u8 x.cr, .int .u8 x.de, .int .u8 x.cu, .int .i64 x.li, .int .i64 x.db], .int .i64 x.rank, .bool true]
          (fun w' => Below Wy.heap.size Wy w') (by kernel_rfl) (Below.refl _ _).drew ?_
        intro af haf
        simp only [puts, Act.put, List.getD_cons_zero, List.getD_cons_succ, List.setIfInBounds_toArray, List.set_cons_succ, List.set_cons_zero] at haf
        subst haf
        refine ⟨?_, ?_⟩
        · simp only [EachTo]
          refine ⟨?_, ?_, ?_, ?_, ?_, trivial⟩
          · intro w' hS
            refine OpTo.plain ?_ ?_
            exact rfl
            have d0_0 := (KY0.out.below hS KY0.out.lt).cell 0
            have d0_1 := (KY0.out.below hS KY0.out.lt).cell 1
            have d0_2 := (KY0.out.below hS KY0.out.lt).cell 2
            have d0_3 := (KY0.out.below hS KY0.out.lt).cell 3
            have d0_4 := (KY0.out.below hS KY0.out.lt).cell 4
            simp at d0_0 d0_1 d0_2 d0_3 d0_4
            have HS := Lib.hid hS
            clear hS
            go_wp2_with fail
            all_goals first | exact HS.out | exact ⟨rfl, HS.out⟩ | rfl
          · intro w' hS
            refine OpTo.plain ?_ ?_
            exact rfl
            have HS := Lib.hid hS
            clear hS
            go_wp2_with fail
            refine (cy.out w').mono ?_
            rintro e w'' ⟨rfl, hb2⟩
            exact ⟨rfl, andB HS.out hb2⟩
          · intro w' hS
            refine OpTo.plain ?_ ?_
            exact rfl
            have d0_0 := (KX0.out.below hS KX0.out.lt).cell 0
            have d0_1 := (KX0.out.below hS KX0.out.lt).cell 1
            have d0_2 := (KX0.out.below hS KX0.out.lt).cell 2
            have d0_3 := (KX0.out.below hS KX0.out.lt).cell 3
            have d0_4 := (KX0.out.below hS KX0.out.lt).cell 4
            simp at d0_0 d0_1 d0_2 d0_3 d0_4
            have HS := Lib.hid hS
            clear hS
            go_wp2_with fail
            all_goals first | exact HS.out | exact ⟨rfl, HS.out⟩ | rfl
          · intro w' hS
            refine OpTo.plain ?_ ?_
            exact rfl
            have HS := Lib.hid hS
            clear hS
            go_wp2_with fail
            refine (cx.out w').mono ?_
            rintro e w'' ⟨rfl, hb2⟩
            exact ⟨rfl, andB HS.out hb2⟩
          · intro w' hS
            refine OpTo.plain ?_ ?_
            exact rfl
            have HS := Lib.hid hS
            clear hS
            go_wp2_with fail
            all_goals first | exact HS.out | exact ⟨rfl, HS.out⟩ | rfl
        intro w1 hS
        have z1 : w.heap.size + 1 ≤ w1.heap.size := Nat.le_trans z0 hS.size
        have KX1 := Lib.hid (KX0.out.below hS KX0.out.lt); have KY1 := Lib.hid (KY0.out.below hS KY0.out.lt)
        have B1 := Lib.hid (B0.out.trans (hS.mono B0.out.size)); have O1 := Lib.hid (owns_below O0.out hS)
        clear hS
        go_wp2_with fail
        go_roundw
        case rel => exact ⟨k + 1, by omega, by go_num, by rw [NX.out], by rw [NX.out]; exact O1.out, B1.out, KX1.out⟩
        case measure => simp [intOf]; omega
      · have q1 : (y.rank == x.rank) = false := by simp [h1]
        have NX : Hid (setTo (ls.take (k + 1)) x = (out ++ [y], true)) := Lib.hid (by rw [HS.out]; unfold setStep; rw [if_neg h1, if_neg (by simp)])
        clear HS h1
        have z0 : w.heap.size + 1 ≤ (wr.alloc (.cells #[.int .u8 y.cr, .int .u8 y.de, .int .u8 y.cu, .int .i64 y.li, .int .i64 y.db] 35)).heap.size := by simp; omega
        go_wp2_with fail
        generalize wr.alloc (.cells #[.int .u8 y.cr, .int .u8 y.de, .int .u8 y.cu, .int .i64 y.li, .int .i64 y.db] 35) = Wy at *
        generalize wr.heap.size = gy at *
        refine region_still (by kernel_rfl) [.agg #[.int .u8 y.cr, .int .u8 y.de, .int .u8 y.cu, .int .i64 y.li, .int .i64 y.db], .int .i64 y.rank, .agg #[.int .u8 x.cr, .int .u8 x.de, .int .u8 x.cu, .int .i64 x.li, .int .i64 x.db], .int .i64 x.rank, .bool false]
          (fun w' => Below Wy.heap.size Wy w') (by kernel_rfl) (Below.refl _ _).drew ?_
        intro af haf
        simp only [puts, Act.put, List.getD_cons_zero, List.getD_cons_succ, List.setIfInBounds_toArray, List.set_cons_succ, List.set_cons_zero] at haf
        subst haf
        refine ⟨?_, ?_⟩
        · simp only [EachTo]
          refine ⟨?_, ?_, ?_, ?_, ?_, trivial⟩
          · intro w' hS
            refine OpTo.plain ?_ ?_
            exact rfl
            have d0_0 := (KY0.out.below hS KY0.out.lt).cell 0
            have d0_1 := (KY0.out.below hS KY0.out.lt).cell 1
            have d0_2 := (KY0.out.below hS KY0.out.lt).cell 2
            have d0_3 := (KY0.out.below hS KY0.out.lt).cell 3
            have d0_4 := (KY0.out.below hS KY0.out.lt).cell 4
            simp at d0_0 d0_1 d0_2 d0_3 d0_4
            have HS := Lib.hid hS
            clear hS
            go_wp2_with fail
            all_goals first | exact HS.out | exact ⟨rfl, HS.out⟩ | rfl
          · intro w' hS
            refine OpTo.plain ?_ ?_
            exact rfl
            have HS := Lib.hid hS
            clear hS
            go_wp2_with fail
            refine (cy.out w').mono ?_
            rintro e w'' ⟨rfl, hb2⟩
            exact ⟨rfl, andB HS.out hb2⟩
          · intro w' hS
            refine OpTo.plain ?_ ?_
            exact rfl
            have d0_0 := (KX0.out.below hS KX0.out.lt).cell 0
            have d0_1 := (KX0.out.below hS KX0.out.lt).cell 1
            have d0_2 := (KX0.out.below hS KX0.out.lt).cell 2
            have d0_3 := (KX0.out.below hS KX0.out.lt).cell 3
            have d0_4 := (KX0.out.below hS KX0.out.lt).cell 4
            simp at d0_0 d0_1 d0_2 d0_3 d0_4
            have HS := Lib.hid hS
            clear hS
            go_wp2_with fail
            all_goals first | exact HS.out | exact ⟨rfl, HS.out⟩ | rfl
          · intro w' hS
            refine OpTo.plain ?_ ?_
            exact rfl
            have HS := Lib.hid hS
            clear hS
            go_wp2_with fail
            refine (cx.out w').mono ?_
            rintro e w'' ⟨rfl, hb2⟩
            exact ⟨rfl, andB HS.out hb2⟩
          · intro w' hS
            refine OpTo.plain ?_ ?_
            exact rfl
            have HS := Lib.hid hS
            clear hS
            go_wp2_with fail
            all_goals first | exact HS.out | exact ⟨rfl, HS.out⟩ | rfl
        intro w1 hS
        have z1 : w.heap.size + 1 ≤ w1.heap.size := Nat.le_trans z0 hS.size
        have KX1 := Lib.hid (KX0.out.below hS KX0.out.lt); have KY1 := Lib.hid (KY0.out.below hS KY0.out.lt)
        have B1 := Lib.hid (B0.out.trans (hS.mono B0.out.size)); have O1 := Lib.hid (owns_below O0.out hS)
        clear hS
        go_wp2_with fail
        refine region_still (by kernel_rfl) [.bool true, .bool false, .bool false, undef, undef, undef, undef, undef, .bool false]
          (fun w' => Below w1.heap.size w1 w') (by kernel_rfl) (Below.refl _ _).drew ?_
        intro af haf
        simp only [puts, Act.put, List.getD_cons_zero, List.getD_cons_succ, List.setIfInBounds_toArray, List.set_cons_succ, List.set_cons_zero] at haf
        subst haf
        refine ⟨?_, ?_⟩
        · simp only [EachTo]
          refine ⟨?_, ?_, ?_, ?_, ?_, ?_, ?_, ?_, ?_, trivial⟩
          · intro w' hS
            refine OpTo.plain ?_ ?_
            exact rfl
            have HS := Lib.hid hS
            clear hS
            go_wp2_with fail
            all_goals first | exact HS.out | exact ⟨rfl, HS.out⟩ | rfl
          · intro w' hS
            refine OpTo.plain ?_ ?_
            exact rfl
            have HS := Lib.hid hS
            clear hS
            go_wp2_with fail
            all_goals first | exact HS.out | exact ⟨rfl, HS.out⟩ | rfl
          · intro w' hS
            refine OpTo.plain ?_ ?_
            exact rfl
            have HS := Lib.hid hS
            clear hS
            go_wp2_with fail
            all_goals first | exact HS.out | exact ⟨rfl, HS.out⟩ | rfl
          · intro w' hS
            refine OpTo.passed (by kernel_rfl) rfl hS
          · intro w' hS
            refine OpTo.passed (by kernel_rfl) rfl hS
          · intro w' hS
            refine OpTo.passed (by kernel_rfl) rfl hS
          · intro w' hS
            refine OpTo.passed (by kernel_rfl) rfl hS
          · intro w' hS
            refine OpTo.passed (by kernel_rfl) rfl hS
          · intro w' hS
            refine OpTo.plain ?_ ?_
            exact rfl
            have HS := Lib.hid hS
            clear hS
            go_wp2_with fail
            all_goals first | exact HS.out | exact ⟨rfl, HS.out⟩ | rfl
        intro w2 hS
        have z2 : w.heap.size + 1 ≤ w2.heap.size := Nat.le_trans z1 hS.size
        have KX2 := Lib.hid (KX1.out.below hS KX1.out.lt); have KY2 := Lib.hid (KY1.out.below hS KY1.out.lt)
        have B2 := Lib.hid (B1.out.trans (hS.mono B1.out.size)); have O2 := Lib.hid (owns_below O1.out hS)
        clear hS
        have dy_0 := KY2.out.cell 0
        have dy_1 := KY2.out.cell 1
        have dy_2 := KY2.out.cell 2
        have dy_3 := KY2.out.cell 3
        have dy_4 := KY2.out.cell 4
        simp at dy_0 dy_1 dy_2 dy_3 dy_4
        have hl2 : (out).length ≤ 100000 := by first | omega | (simp; omega)
        go_wp2_with (at_builtin; refine wpList_append_line _ rfl (.tmp 45) (.tmp 47) rfl (w.heap.size + 1) _ (out) rfl (O2.out.alloc _) _ _ y rfl (Blk.new _ _ _) hl2 (by simp; omega) ?_)
        intro v3 w3 hown3 hgr3
        have R2 : ∀ k, Value.ownBlock _ = some k → w.heap.size + 1 ≤ k := fun k hk => (owns_type O2.out hk).1
        have B3 := Lib.hid ((B2.out.alloc B2.out.size (.cells #[.int .u8 y.cr, .int .u8 y.de, .int .u8 y.cu, .int .i64 y.li, .int .i64 y.db] 35)).grown hgr3 (by simp; omega) (fun k hk => by have := R2 k hk; omega))
        have KX3 := Lib.hid ((KX2.out.alloc (.cells #[.int .u8 y.cr, .int .u8 y.de, .int .u8 y.cu, .int .i64 y.li, .int .i64 y.db] 35)).grown hgr3 (fun e => by have := R2 _ e; omega))
        have O3 := Lib.hid (show w3.ownsRow (w.heap.size + 1) 35 5 v3 (out ++ [y]).length (lnCells (out ++ [y])) by simpa using hown3)
        clear R2 hown3 hgr3
        go_wp2_with fail
        go_roundw
        case rel => exact ⟨k + 1, by omega, by go_num, by rw [NX.out], by rw [NX.out]; exact O3.out, B3.out, KX3.out⟩
        case measure => simp [intOf]; omega
      · have q1 : (y.rank == x.rank) = false := by simp [h1]
        have NX : Hid (setTo (ls.take (k + 1)) x = (out ++ [x, y], true)) := Lib.hid (by rw [HS.out]; unfold setStep; rw [if_neg h1, if_pos ⟨rfl, h2⟩])
        have q2 : decide (x.rank < y.rank) = true := by simpa using h2
        clear HS h1 h2
        have z0 : w.heap.size + 1 ≤ (wr.alloc (.cells #[.int .u8 y.cr, .int .u8 y.de, .int .u8 y.cu, .int .i64 y.li, .int .i64 y.db] 35)).heap.size := by simp; omega
        go_wp2_with fail
        generalize wr.alloc (.cells #[.int .u8 y.cr, .int .u8 y.de, .int .u8 y.cu, .int .i64 y.li, .int .i64 y.db] 35) = Wy at *
        generalize wr.heap.size = gy at *
        refine region_still (by kernel_rfl) [.agg #[.int .u8 y.cr, .int .u8 y.de, .int .u8 y.cu, .int .i64 y.li, .int .i64 y.db], .int .i64 y.rank, .agg #[.int .u8 x.cr, .int .u8 x.de, .int .u8 x.cu, .int .i64 x.li, .int .i64 x.db], .int .i64 x.rank, .bool false]
          (fun w' => Below Wy.heap.size Wy w') (by kernel_rfl) (Below.refl _ _).drew ?_
        intro af haf
        simp only [puts, Act.put, List.getD_cons_zero, List.getD_cons_succ, List.setIfInBounds_toArray, List.set_cons_succ, List.set_cons_zero] at haf
        subst haf
        refine ⟨?_, ?_⟩
        · simp only [EachTo]
          refine ⟨?_, ?_, ?_, ?_, ?_, trivial⟩
          · intro w' hS
            refine OpTo.plain ?_ ?_
            exact rfl
            have d0_0 := (KY0.out.below hS KY0.out.lt).cell 0
            have d0_1 := (KY0.out.below hS KY0.out.lt).cell 1
            have d0_2 := (KY0.out.below hS KY0.out.lt).cell 2
            have d0_3 := (KY0.out.below hS KY0.out.lt).cell 3
            have d0_4 := (KY0.out.below hS KY0.out.lt).cell 4
            simp at d0_0 d0_1 d0_2 d0_3 d0_4
            have HS := Lib.hid hS
            clear hS
            go_wp2_with fail
            all_goals first | exact HS.out | exact ⟨rfl, HS.out⟩ | rfl
          · intro w' hS
            refine OpTo.plain ?_ ?_
            exact rfl
            have HS := Lib.hid hS
            clear hS
            go_wp2_with fail
            refine (cy.out w').mono ?_
            rintro e w'' ⟨rfl, hb2⟩
            exact ⟨rfl, andB HS.out hb2⟩
          · intro w' hS
            refine OpTo.plain ?_ ?_
            exact rfl
            have d0_0 := (KX0.out.below hS KX0.out.lt).cell 0
            have d0_1 := (KX0.out.below hS KX0.out.lt).cell 1
            have d0_2 := (KX0.out.below hS KX0.out.lt).cell 2
            have d0_3 := (KX0.out.below hS KX0.out.lt).cell 3
            have d0_4 := (KX0.out.below hS KX0.out.lt).cell 4
            simp at d0_0 d0_1 d0_2 d0_3 d0_4
            have HS := Lib.hid hS
            clear hS
            go_wp2_with fail
            all_goals first | exact HS.out | exact ⟨rfl, HS.out⟩ | rfl
          · intro w' hS
            refine OpTo.plain ?_ ?_
            exact rfl
            have HS := Lib.hid hS
            clear hS
            go_wp2_with fail
            refine (cx.out w').mono ?_
            rintro e w'' ⟨rfl, hb2⟩
            exact ⟨rfl, andB HS.out hb2⟩
          · intro w' hS
            refine OpTo.plain ?_ ?_
            exact rfl
            have HS := Lib.hid hS
            clear hS
            go_wp2_with fail
            all_goals first | exact HS.out | exact ⟨rfl, HS.out⟩ | rfl
        intro w1 hS
        have z1 : w.heap.size + 1 ≤ w1.heap.size := Nat.le_trans z0 hS.size
        have KX1 := Lib.hid (KX0.out.below hS KX0.out.lt); have KY1 := Lib.hid (KY0.out.below hS KY0.out.lt)
        have B1 := Lib.hid (B0.out.trans (hS.mono B0.out.size)); have O1 := Lib.hid (owns_below O0.out hS)
        clear hS
        go_wp2_with fail
        refine region_still (by kernel_rfl) [.bool false, .bool true, .bool true, .agg #[.int .u8 y.cr, .int .u8 y.de, .int .u8 y.cu, .int .i64 y.li, .int .i64 y.db], .int .i64 y.rank, .agg #[.int .u8 x.cr, .int .u8 x.de, .int .u8 x.cu, .int .i64 x.li, .int .i64 x.db], .int .i64 x.rank, .bool true, .bool true]
          (fun w' => Below w1.heap.size w1 w') (by kernel_rfl) (Below.refl _ _).drew ?_
        intro af haf
        simp only [puts, Act.put, List.getD_cons_zero, List.getD_cons_succ, List.setIfInBounds_toArray, List.set_cons_succ, List.set_cons_zero] at haf
        subst haf
        refine ⟨?_, ?_⟩
        · simp only [EachTo]
          refine ⟨?_, ?_, ?_, ?_, ?_, ?_, ?_, ?_, ?_, trivial⟩
          · intro w' hS
            refine OpTo.plain ?_ ?_
            exact rfl
            have HS := Lib.hid hS
            clear hS
            go_wp2_with fail
            all_goals first | exact HS.out | exact ⟨rfl, HS.out⟩ | rfl
          · intro w' hS
            refine OpTo.plain ?_ ?_
            exact rfl
            have HS := Lib.hid hS
            clear hS
            go_wp2_with fail
            all_goals first | exact HS.out | exact ⟨rfl, HS.out⟩ | rfl
          · intro w' hS
            refine OpTo.plain ?_ ?_
            exact rfl
            have HS := Lib.hid hS
            clear hS
            go_wp2_with fail
            all_goals first | exact HS.out | exact ⟨rfl, HS.out⟩ | rfl
          · intro w' hS
            refine OpTo.wanted ?_ ?_
            kernel_rfl
            have d0_0 := (KY1.out.below hS KY1.out.lt).cell 0
            have d0_1 := (KY1.out.below hS KY1.out.lt).cell 1
            have d0_2 := (KY1.out.below hS KY1.out.lt).cell 2
            have d0_3 := (KY1.out.below hS KY1.out.lt).cell 3
            have d0_4 := (KY1.out.below hS KY1.out.lt).cell 4
            simp at d0_0 d0_1 d0_2 d0_3 d0_4
            have HS := Lib.hid hS
            clear hS
            go_wp2_with fail
            all_goals first | exact HS.out | exact ⟨rfl, HS.out⟩ | rfl
          · intro w' hS
            refine OpTo.wanted ?_ ?_
            kernel_rfl
            have HS := Lib.hid hS
            clear hS
            go_wp2_with fail
            refine (cy.out w').mono ?_
            rintro e w'' ⟨rfl, hb2⟩
            exact ⟨rfl, andB HS.out hb2⟩
          · intro w' hS
            refine OpTo.wanted ?_ ?_
            kernel_rfl
            have d0_0 := (KX1.out.below hS KX1.out.lt).cell 0
            have d0_1 := (KX1.out.below hS KX1.out.lt).cell 1
            have d0_2 := (KX1.out.below hS KX1.out.lt).cell 2
            have d0_3 := (KX1.out.below hS KX1.out.lt).cell 3
            have d0_4 := (KX1.out.below hS KX1.out.lt).cell 4
            simp at d0_0 d0_1 d0_2 d0_3 d0_4
            have HS := Lib.hid hS
            clear hS
            go_wp2_with fail
            all_goals first | exact HS.out | exact ⟨rfl, HS.out⟩ | rfl
          · intro w' hS
            refine OpTo.wanted ?_ ?_
            kernel_rfl
            have HS := Lib.hid hS
            clear hS
            go_wp2_with fail
            refine (cx.out w').mono ?_
            rintro e w'' ⟨rfl, hb2⟩
            exact ⟨rfl, andB HS.out hb2⟩
          · intro w' hS
            refine OpTo.wanted ?_ ?_
            kernel_rfl
            have HS := Lib.hid hS
            clear hS
            go_wp2_with fail
            all_goals first | exact HS.out | exact ⟨rfl, HS.out⟩ | rfl
          · intro w' hS
            refine OpTo.plain ?_ ?_
            exact rfl
            have HS := Lib.hid hS
            clear hS
            go_wp2_with fail
            all_goals first | exact HS.out | exact ⟨rfl, HS.out⟩ | rfl
        intro w2 hS
        have z2 : w.heap.size + 1 ≤ w2.heap.size := Nat.le_trans z1 hS.size
        have KX2 := Lib.hid (KX1.out.below hS KX1.out.lt); have KY2 := Lib.hid (KY1.out.below hS KY1.out.lt)
        have B2 := Lib.hid (B1.out.trans (hS.mono B1.out.size)); have O2 := Lib.hid (owns_below O1.out hS)
        clear hS
        have dx_0 := KX2.out.cell 0
        have dx_1 := KX2.out.cell 1
        have dx_2 := KX2.out.cell 2
        have dx_3 := KX2.out.cell 3
        have dx_4 := KX2.out.cell 4
        simp at dx_0 dx_1 dx_2 dx_3 dx_4
        have hl2 : out.length ≤ 100000 := by omega
        go_wp2_with (at_builtin; refine wpList_append_line _ rfl (.tmp 41) (.tmp 43) rfl (w.heap.size + 1) _ out rfl (O2.out.alloc _) _ _ x rfl (Blk.new _ _ _) hl2 (by simp; omega) ?_)
        intro v3 w3 hown3 hgr3
        have R2 : ∀ k, Value.ownBlock _ = some k → w.heap.size + 1 ≤ k := fun k hk => (owns_type O2.out hk).1
        have B3 := Lib.hid ((B2.out.alloc B2.out.size (.cells #[.int .u8 x.cr, .int .u8 x.de, .int .u8 x.cu, .int .i64 x.li, .int .i64 x.db] 35)).grown hgr3 (by simp; omega) (fun k hk => by have := R2 k hk; omega))
        have KX3 := Lib.hid ((KX2.out.alloc (.cells #[.int .u8 x.cr, .int .u8 x.de, .int .u8 x.cu, .int .i64 x.li, .int .i64 x.db] 35)).grown hgr3 (fun e => by have := R2 _ e; omega))
        have KY3 := Lib.hid ((KY2.out.alloc (.cells #[.int .u8 x.cr, .int .u8 x.de, .int .u8 x.cu, .int .i64 x.li, .int .i64 x.db] 35)).grown hgr3 (fun e => by have := hrow _ e; omega))
        have O3 := Lib.hid (show w3.ownsRow (w.heap.size + 1) 35 5 v3 (out ++ [x]).length (lnCells (out ++ [x])) by simpa using hown3)
        have z3 : w.heap.size + 1 ≤ w3.heap.size := by have := hgr3.size; simp at this; omega
        clear R2 hown3 hgr3
        have dy_0 := KY3.out.cell 0
        have dy_1 := KY3.out.cell 1
        have dy_2 := KY3.out.cell 2
        have dy_3 := KY3.out.cell 3
        have dy_4 := KY3.out.cell 4
        simp at dy_0 dy_1 dy_2 dy_3 dy_4
        have hl3 : (out ++ [x]).length ≤ 100000 := by first | omega | (simp; omega)
        go_wp2_with (at_builtin; refine wpList_append_line _ rfl (.tmp 45) (.tmp 47) rfl (w.heap.size + 1) _ (out ++ [x]) rfl (O3.out.alloc _) _ _ y rfl (Blk.new _ _ _) hl3 (by simp; omega) ?_)
        intro v4 w4 hown4 hgr4
        have R3 : ∀ k, Value.ownBlock _ = some k → w.heap.size + 1 ≤ k := fun k hk => (owns_type O3.out hk).1
        have B4 := Lib.hid ((B3.out.alloc B3.out.size (.cells #[.int .u8 y.cr, .int .u8 y.de, .int .u8 y.cu, .int .i64 y.li, .int .i64 y.db] 35)).grown hgr4 (by simp; omega) (fun k hk => by have := R3 k hk; omega))
        have KX4 := Lib.hid ((KX3.out.alloc (.cells #[.int .u8 y.cr, .int .u8 y.de, .int .u8 y.cu, .int .i64 y.li, .int .i64 y.db] 35)).grown hgr4 (fun e => by have := R3 _ e; omega))
        have O4 := Lib.hid (show w4.ownsRow (w.heap.size + 1) 35 5 v4 (out ++ [x, y]).length (lnCells (out ++ [x, y])) by simpa using hown4)
        clear R3 hown4 hgr4
        go_wp2_with fail
        go_roundw
        case rel => exact ⟨k + 1, by omega, by go_num, by rw [NX.out], by rw [NX.out]; exact O4.out, B4.out, KX4.out⟩
        case measure => simp [intOf]; omega
      · have q1 : (y.rank == x.rank) = false := by simp [h1]
        have NX : Hid (setTo (ls.take (k + 1)) x = (out ++ [y], false)) := Lib.hid (by rw [HS.out]; unfold setStep; rw [if_neg h1, if_neg (by simp; omega)])
        have q2 : decide (x.rank < y.rank) = false := by simpa using h2
        clear HS h1 h2
        have z0 : w.heap.size + 1 ≤ (wr.alloc (.cells #[.int .u8 y.cr, .int .u8 y.de, .int .u8 y.cu, .int .i64 y.li, .int .i64 y.db] 35)).heap.size := by simp; omega
        go_wp2_with fail
        generalize wr.alloc (.cells #[.int .u8 y.cr, .int .u8 y.de, .int .u8 y.cu, .int .i64 y.li, .int .i64 y.db] 35) = Wy at *
        generalize wr.heap.size = gy at *
        refine region_still (by kernel_rfl) [.agg #[.int .u8 y.cr, .int .u8 y.de, .int .u8 y.cu, .int .i64 y.li, .int .i64 y.db], .int .i64 y.rank, .agg #[.int .u8 x.cr, .int .u8 x.de, .int .u8 x.cu, .int .i64 x.li, .int .i64 x.db], .int .i64 x.rank, .bool false]
          (fun w' => Below Wy.heap.size Wy w') (by kernel_rfl) (Below.refl _ _).drew ?_
        intro af haf
        simp only [puts, Act.put, List.getD_cons_zero, List.getD_cons_succ, List.setIfInBounds_toArray, List.set_cons_succ, List.set_cons_zero] at haf
        subst haf
        refine ⟨?_, ?_⟩
        · simp only [EachTo]
          refine ⟨?_, ?_, ?_, ?_, ?_, trivial⟩
          · intro w' hS
            refine OpTo.plain ?_ ?_
            exact rfl
            have d0_0 := (KY0.out.below hS KY0.out.lt).cell 0
            have d0_1 := (KY0.out.below hS KY0.out.lt).cell 1
            have d0_2 := (KY0.out.below hS KY0.out.lt).cell 2
            have d0_3 := (KY0.out.below hS KY0.out.lt).cell 3
            have d0_4 := (KY0.out.below hS KY0.out.lt).cell 4
            simp at d0_0 d0_1 d0_2 d0_3 d0_4
            have HS := Lib.hid hS
            clear hS
            go_wp2_with fail
            all_goals first | exact HS.out | exact ⟨rfl, HS.out⟩ | rfl
          · intro w' hS
            refine OpTo.plain ?_ ?_
            exact rfl
            have HS := Lib.hid hS
            clear hS
            go_wp2_with fail
            refine (cy.out w').mono ?_
            rintro e w'' ⟨rfl, hb2⟩
            exact ⟨rfl, andB HS.out hb2⟩
          · intro w' hS
            refine OpTo.plain ?_ ?_
            exact rfl
            have d0_0 := (KX0.out.below hS KX0.out.lt).cell 0
            have d0_1 := (KX0.out.below hS KX0.out.lt).cell 1
            have d0_2 := (KX0.out.below hS KX0.out.lt).cell 2
            have d0_3 := (KX0.out.below hS KX0.out.lt).cell 3
            have d0_4 := (KX0.out.below hS KX0.out.lt).cell 4
            simp at d0_0 d0_1 d0_2 d0_3 d0_4
            have HS := Lib.hid hS
            clear hS
            go_wp2_with fail
            all_goals first | exact HS.out | exact ⟨rfl, HS.out⟩ | rfl
          · intro w' hS
            refine OpTo.plain ?_ ?_
            exact rfl
            have HS := Lib.hid hS
            clear hS
            go_wp2_with fail
            refine (cx.out w').mono ?_
            rintro e w'' ⟨rfl, hb2⟩
            exact ⟨rfl, andB HS.out hb2⟩
          · intro w' hS
            refine OpTo.plain ?_ ?_
            exact rfl
            have HS := Lib.hid hS
            clear hS
            go_wp2_with fail
            all_goals first | exact HS.out | exact ⟨rfl, HS.out⟩ | rfl
        intro w1 hS
        have z1 : w.heap.size + 1 ≤ w1.heap.size := Nat.le_trans z0 hS.size
        have KX1 := Lib.hid (KX0.out.below hS KX0.out.lt); have KY1 := Lib.hid (KY0.out.below hS KY0.out.lt)
        have B1 := Lib.hid (B0.out.trans (hS.mono B0.out.size)); have O1 := Lib.hid (owns_below O0.out hS)
        clear hS
        go_wp2_with fail
        refine region_still (by kernel_rfl) [.bool false, .bool true, .bool true, .agg #[.int .u8 y.cr, .int .u8 y.de, .int .u8 y.cu, .int .i64 y.li, .int .i64 y.db], .int .i64 y.rank, .agg #[.int .u8 x.cr, .int .u8 x.de, .int .u8 x.cu, .int .i64 x.li, .int .i64 x.db], .int .i64 x.rank, .bool false, .bool false]
          (fun w' => Below w1.heap.size w1 w') (by kernel_rfl) (Below.refl _ _).drew ?_
        intro af haf
        simp only [puts, Act.put, List.getD_cons_zero, List.getD_cons_succ, List.setIfInBounds_toArray, List.set_cons_succ, List.set_cons_zero] at haf
        subst haf
        refine ⟨?_, ?_⟩
        · simp only [EachTo]
          refine ⟨?_, ?_, ?_, ?_, ?_, ?_, ?_, ?_, ?_, trivial⟩
          · intro w' hS
            refine OpTo.plain ?_ ?_
            exact rfl
            have HS := Lib.hid hS
            clear hS
            go_wp2_with fail
            all_goals first | exact HS.out | exact ⟨rfl, HS.out⟩ | rfl
          · intro w' hS
            refine OpTo.plain ?_ ?_
            exact rfl
            have HS := Lib.hid hS
            clear hS
            go_wp2_with fail
            all_goals first | exact HS.out | exact ⟨rfl, HS.out⟩ | rfl
          · intro w' hS
            refine OpTo.plain ?_ ?_
            exact rfl
            have HS := Lib.hid hS
            clear hS
            go_wp2_with fail
            all_goals first | exact HS.out | exact ⟨rfl, HS.out⟩ | rfl
          · intro w' hS
            refine OpTo.wanted ?_ ?_
            kernel_rfl
            have d0_0 := (KY1.out.below hS KY1.out.lt).cell 0
            have d0_1 := (KY1.out.below hS KY1.out.lt).cell 1
            have d0_2 := (KY1.out.below hS KY1.out.lt).cell 2
            have d0_3 := (KY1.out.below hS KY1.out.lt).cell 3
            have d0_4 := (KY1.out.below hS KY1.out.lt).cell 4
            simp at d0_0 d0_1 d0_2 d0_3 d0_4
            have HS := Lib.hid hS
            clear hS
            go_wp2_with fail
            all_goals first | exact HS.out | exact ⟨rfl, HS.out⟩ | rfl
          · intro w' hS
            refine OpTo.wanted ?_ ?_
            kernel_rfl
            have HS := Lib.hid hS
            clear hS
            go_wp2_with fail
            refine (cy.out w').mono ?_
            rintro e w'' ⟨rfl, hb2⟩
            exact ⟨rfl, andB HS.out hb2⟩
          · intro w' hS
            refine OpTo.wanted ?_ ?_
            kernel_rfl
            have d0_0 := (KX1.out.below hS KX1.out.lt).cell 0
            have d0_1 := (KX1.out.below hS KX1.out.lt).cell 1
            have d0_2 := (KX1.out.below hS KX1.out.lt).cell 2
            have d0_3 := (KX1.out.below hS KX1.out.lt).cell 3
            have d0_4 := (KX1.out.below hS KX1.out.lt).cell 4
            simp at d0_0 d0_1 d0_2 d0_3 d0_4
            have HS := Lib.hid hS
            clear hS
            go_wp2_with fail
            all_goals first | exact HS.out | exact ⟨rfl, HS.out⟩ | rfl
          · intro w' hS
            refine OpTo.wanted ?_ ?_
            kernel_rfl
            have HS := Lib.hid hS
            clear hS
            go_wp2_with fail
            refine (cx.out w').mono ?_
            rintro e w'' ⟨rfl, hb2⟩
            exact ⟨rfl, andB HS.out hb2⟩
          · intro w' hS
            refine OpTo.wanted ?_ ?_
            kernel_rfl
            have HS := Lib.hid hS
            clear hS
            go_wp2_with fail
            all_goals first | exact HS.out | exact ⟨rfl, HS.out⟩ | rfl
          · intro w' hS
            refine OpTo.plain ?_ ?_
            exact rfl
            have HS := Lib.hid hS
            clear hS
            go_wp2_with fail
            all_goals first | exact HS.out | exact ⟨rfl, HS.out⟩ | rfl
        intro w2 hS
        have z2 : w.heap.size + 1 ≤ w2.heap.size := Nat.le_trans z1 hS.size
        have KX2 := Lib.hid (KX1.out.below hS KX1.out.lt); have KY2 := Lib.hid (KY1.out.below hS KY1.out.lt)
        have B2 := Lib.hid (B1.out.trans (hS.mono B1.out.size)); have O2 := Lib.hid (owns_below O1.out hS)
        clear hS
        have dy_0 := KY2.out.cell 0
        have dy_1 := KY2.out.cell 1
        have dy_2 := KY2.out.cell 2
        have dy_3 := KY2.out.cell 3
        have dy_4 := KY2.out.cell 4
        simp at dy_0 dy_1 dy_2 dy_3 dy_4
        have hl2 : (out).length ≤ 100000 := by first | omega | (simp; omega)
        go_wp2_with (at_builtin; refine wpList_append_line _ rfl (.tmp 45) (.tmp 47) rfl (w.heap.size + 1) _ (out) rfl (O2.out.alloc _) _ _ y rfl (Blk.new _ _ _) hl2 (by simp; omega) ?_)
        intro v3 w3 hown3 hgr3
        have R2 : ∀ k, Value.ownBlock _ = some k → w.heap.size + 1 ≤ k := fun k hk => (owns_type O2.out hk).1
        have B3 := Lib.hid ((B2.out.alloc B2.out.size (.cells #[.int .u8 y.cr, .int .u8 y.de, .int .u8 y.cu, .int .i64 y.li, .int .i64 y.db] 35)).grown hgr3 (by simp; omega) (fun k hk => by have := R2 k hk; omega))
        have KX3 := Lib.hid ((KX2.out.alloc (.cells #[.int .u8 y.cr, .int .u8 y.de, .int .u8 y.cu, .int .i64 y.li, .int .i64 y.db] 35)).grown hgr3 (fun e => by have := R2 _ e; omega))
        have O3 := Lib.hid (show w3.ownsRow (w.heap.size + 1) 35 5 v3 (out ++ [y]).length (lnCells (out ++ [y])) by simpa using hown3)
        clear R2 hown3 hgr3
        go_wp2_with fail
        go_roundw
        case rel => exact ⟨k + 1, by omega, by go_num, by rw [NX.out], by rw [NX.out]; exact O3.out, B3.out, KX3.out⟩
        case measure => simp [intOf]; omega
    · have hke : ls.take k = ls := List.take_of_length_le (by omega)
      rw [hke] at hown hlo ⊢
      have E := Lib.hid (show setL ls x = if (setTo ls x).2 = false then (setTo ls x).1 ++ [x] else (setTo ls x).1 from rfl)
      have FR := Lib.hid hb.size
      clear hke hlk
      generalize setTo ls x = s at *
      obtain ⟨out, put⟩ := s
      dsimp only at *
      have O0 := Lib.hid hown; have B0 := Lib.hid hb; have KX0 := Lib.hid hkx
      have z0 : w.heap.size + 1 ≤ wr.heap.size := hkx.lt
      have hf := (H.out.blk.below hb hg).frozen
      clear hown hb hkx
      cases put
      · have E' := Lib.hid (show setL ls x = out ++ [x] from E.out)
        have hl0 : out.length ≤ 100000 := by omega
        have dx_0 := KX0.out.cell 0
        have dx_1 := KX0.out.cell 1
        have dx_2 := KX0.out.cell 2
        have dx_3 := KX0.out.cell 3
        have dx_4 := KX0.out.cell 4
        simp at dx_0 dx_1 dx_2 dx_3 dx_4
        go_wp2_with (at_builtin; refine wpList_append_line _ rfl (.tmp 51) (.tmp 53) rfl (w.heap.size + 1) _ out rfl (O0.out.alloc _) _ _ x rfl (Blk.new _ _ _) hl0 (by simp; omega) ?_)
        intro v3 w3 hown3 hgr3
        have R2 : ∀ k, Value.ownBlock _ = some k → w.heap.size + 1 ≤ k := fun k hk => (owns_type O0.out hk).1
        have B3 := Lib.hid ((B0.out.alloc B0.out.size (.cells #[.int .u8 x.cr, .int .u8 x.de, .int .u8 x.cu, .int .i64 x.li, .int .i64 x.db] 35)).grown hgr3 (by simp; omega) (fun k hk => by have := R2 k hk; omega))
        have O3 := Lib.hid (show w3.ownsRow (w.heap.size + 1) 35 5 v3 (out ++ [x]).length (lnCells (out ++ [x])) by simpa using hown3)
        clear R2 hown3 hgr3
        clear dg hf
        have dg := (H.out.blk.below B3.out hg).cell 1
        simp at dg
        have hf := (H.out.blk.below B3.out hg).frozen
        have hg3 := (H.out.blk.below B3.out hg).lt
        obtain ⟨ao3, cap3, hv3, _⟩ := owns_open O3.out
        subst hv3
        go_wp2
        go_end0
        exact ⟨rfl, set_done H.out hg B3.out (by rw [E'.out]; have q := O3.out; simpa using q)⟩
      · have E' := Lib.hid (show setL ls x = out from E.out)
        obtain ⟨ao3, cap3, hv3, _⟩ := owns_open O0.out
        subst hv3
        go_wp2
        go_end0
        exact ⟨rfl, set_done H.out hg B0.out (by rw [E'.out]; exact O0.out)⟩

end Go.Proofs.Ytlcilpeljnoclaa
