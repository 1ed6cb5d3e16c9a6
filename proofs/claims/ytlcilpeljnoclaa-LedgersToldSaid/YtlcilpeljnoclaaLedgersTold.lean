/-
  LedgersTold: the walk, for every acts and every line.
-/
import Derived.Test.YtlcilpeljnoclaaMade
import Derived.Test.YtlcilpeljnoclaaSameL
import Derived.Test.YtlcilpeljnoclaaRef03i
import Derived.Test.YtlcilpeljnoclaaPOf3
namespace Go.Proofs.Ytlcilpeljnoclaa
open Go.RowKit
set_option linter.unusedSimpArgs false
set_option linter.unusedVariables false

theorem sub_len16 {ps : List Int} {ls : List Ln} (h : LInv ps ls) : ps.length ≤ 17 := by
  have h1 := open_all h.bd h.rise
  have h2 := openTo_len ps 0 17
  rw [h1] at h2
  omega
theorem lnCells_app (a b : List Ln) : lnCells (a ++ b) = lnCells a ++ lnCells b := List.flatMap_append
theorem lnCells_take (ls : List Ln) {i j : Nat} (hi : i ≤ ls.length) (hj : j < i * 5) : (lnCells (ls.take i))[j]? = (lnCells ls)[j]? := by
  have h := lnCells_app (ls.take i) (ls.drop i)
  rw [List.take_append_drop] at h
  rw [h, List.getElem?_append_left (by rw [lnCells_len, List.length_take]; omega)]
theorem lnCells_drop (ls : List Ln) {i j : Nat} (hi : i ≤ ls.length) : (lnCells (ls.drop i))[j]? = (lnCells ls)[i * 5 + j]? := by
  have h := lnCells_app (ls.take i) (ls.drop i)
  rw [List.take_append_drop] at h
  have hl : (lnCells (ls.take i)).length = i * 5 := by rw [lnCells_len, List.length_take]; congr 1; omega
  rw [h, List.getElem?_append_right (by omega), hl, Nat.add_sub_cancel_left]
/-- 'append(v, lines...)', where v is a row of one's own. -/
theorem run_append_lines {w : World} {base : Nat} {v : Value} {n : Nat} {xs : List Value} (hown : w.ownsRow base 35 5 v n xs) (hn : n ≤ 1000) (g o m c : Nat) (hm : m ≤ 1000) (ys : List Ln) (hy : ys.length = m)
    (hc : ∀ j, j < m * 5 → w.cell? ⟨g, o + j, none⟩ = (lnCells ys)[j]?) (ty : TypeId) (hb : base ≤ w.heap.size) :
    ∃ v' w', (Builtin.append_ #[49, 49] ty #[v, .slice (some ⟨g, o, none⟩) m c]).run Try.prog w = .ok v' w' ∧ w'.ownsRow base 35 5 v' (n + m) (xs ++ lnCells ys) ∧ w.grownBy w' v.ownBlock := by
  obtain ⟨i0, hi, hz0, hz1, hz2⟩ := info_parts info_lineAll
  obtain ⟨v', w', hr, h2, h3, _⟩ := run_append_own (P := Try.prog) (w := w) base 49 ty 35 i0 noLn.val 5 24 Try.underlying49 hi hz0 hz1 hz2 rfl (by decide) v n xs hown ⟨g, o, none⟩ m c (lnCells ys) (by rw [lnCells_len, hy]) (fun j u hj => by
      have hjl : j < (lnCells ys).length := (List.getElem?_eq_some_iff.1 hj).1
      rw [lnCells_len, hy] at hjl
      rw [Go.WideShapes.add_plain]
      exact (hc j hjl).trans hj) (lnCells_one_cell ys) (by unfold maxLen; omega) (by omega) hb
  exact ⟨v', w', hr, h2, h3⟩
theorem wp_append_two {P : Program} {w w' : World} {o : Oper} {a : Act} {K : Act → World → Prop} {Q : Exit → Act → World → Prop} (y x : Operand) (t : TypeId) {u v v' : Value}
    (ho : o.op = .call { callee := .builtin .append, args := #[y, x], argTypes := #[t, t] }) (hy : a.eval y = u) (hx : a.eval x = v)
    (hr : (Builtin.append_ #[t, t] o.type #[u, v]).run P w = .ok v' w') (h : K (a.put o.dst v') w') : o.wp P a w K Q := by
  unfold Oper.wp execOp
  simp only [ho, resolve, invoke, builtin, Sem.run_bind, Sem.run_pure, Result.andThen_ok, List.map_toArray, List.map_cons, List.map_nil, hy, hx, hr]
  exact h
/-- What is laid while the doubled row is made. -/
def TwiceI (W : World) (ls : List Ln) (i : Nat) (s : Value × Value) (D : Nat → Bool) (w' : World) : Prop :=
  Below W.heap.size W w' ∧ (D 4 = true → D 8 = false → w'.ownsRow W.heap.size 35 5 s.1 (i + 1) (lnCells (ls.take (i + 1)))) ∧
    (D 8 = true → w'.ownsRow W.heap.size 35 5 s.2 (ls.length + 1) (lnCells (ls.take (i + 1) ++ ls.drop i)))
theorem TwiceI.step {W : World} {ls : List Ln} {i : Nat} {s : Value × Value} {D : Nat → Bool} {w' : World} (h : TwiceI W ls i s D w') {k : Nat} (h4 : k ≠ 4) (h8 : k ≠ 8) : TwiceI W ls i s (ins k D) w' := by
  obtain ⟨q1, q2, q3⟩ := h
  refine ⟨q1, fun d e => q2 ?_ ?_, fun d => q3 ?_⟩
  · simpa [ins, h4.symm] using d
  · simpa [ins, h8.symm] using e
  · simpa [ins, h8.symm] using d
set_option maxHeartbeats 8000000 in
set_option maxRecDepth 100000 in
theorem told_walk (a : Option Addr) (len cap : Nat) (xs : List Ac) (at_ : Int) (w : World) (h0 : ActsIn w a len cap xs) (hat : In8 at_) :
    Calls Try.prog 8 #[.slice a len cap, .int .u8 at_] w fun e w' => e = .returned (.bool true) ∧ Below w.heap.size w w' := by
  have HA := Lib.hid h0
  have hcap := h0.2.2.1
  have hmax := h0.2.2.2.1
  unfold maxLen at hmax
  clear h0
  by_cases hle : ¬ len ≤ 120
  · go_enter Try.func8, Try.ntmps8
    go_wp2_with fail
    refine (lives03_any _).mono ?_
    rintro e w1 ⟨rfl, b1⟩
    have B1 := Lib.hid b1
    clear b1
    go_wp2_with fail
    go_ret
    exact ⟨rfl, B1.out⟩
  · have hle := Decidable.not_not.1 hle
    go_enter Try.func8, Try.ntmps8
    go_wp2_with fail
    refine (made_acts HA.out hle).mono ?_
    rintro e w1 ⟨G, M, ps, ls, rfl, hL, hI, hG, hM, b1⟩
    have I1 := Lib.hid hI
    have L1 := Lib.hid hL
    have B1 := Lib.hid b1
    clear hL hI b1
    go_wp2_with fail
    refine (pparties_any L1.out I1.out).mono ?_
    rintro e w2 ⟨vp, rfl, hv2, b2⟩
    have B2 := Lib.hid (B1.out.trans (b2.mono B1.out.size))
    have L2 := Lib.hid (L1.out.below b2)
    clear b2
    have VP2 := Lib.hid (hv2.base (Nat.zero_le _))
    clear hv2
    go_wp2_with fail
    refine (plines_any L2.out I1.out).mono ?_
    rintro e w3 ⟨vl, rfl, hv3, b3⟩
    have B3 := Lib.hid (B2.out.trans (b3.mono B2.out.size))
    have L3 := Lib.hid (L2.out.below b3)
    have VP3 := Lib.hid (VP2.out.below b3)
    clear b3
    have hw2 := B2.out.size
    have VL3 := Lib.hid (hv3.base hw2)
    clear hv3 hw2
    go_wp2_with fail
    refine (pof_good I1.out (VP3.out.reads (by have := sub_len16 I1.out; omega)) (VL3.out.reads (by have := I1.out.len; omega))).mono ?_
    rintro e w4 ⟨g4, m4, rfl, hL4, b4⟩
    have B4 := Lib.hid (B3.out.trans (b4.mono B3.out.size))
    have L4 := Lib.hid (L3.out.below b4)
    have VP4 := Lib.hid (VP3.out.below b4)
    have VL4 := Lib.hid (VL3.out.below b4)
    clear b4
    have N4 := Lib.hid hL4
    clear hL4
    go_wp2_with fail
    refine (pparties_any N4.out I1.out).mono ?_
    rintro e w5 ⟨vp2, rfl, hv5, b5⟩
    have B5 := Lib.hid (B4.out.trans (b5.mono B4.out.size))
    have L5 := Lib.hid (L4.out.below b5)
    have VP5 := Lib.hid (VP4.out.below b5)
    have VL5 := Lib.hid (VL4.out.below b5)
    have N5 := Lib.hid (N4.out.below b5)
    clear b5
    have VQ := Lib.hid hv5
    clear hv5
    go_wp2_with fail
    have SP := Lib.hid (SameParties_any (VQ.out.reads (by have := sub_len16 I1.out; omega)) (VP5.out.reads (by have := sub_len16 I1.out; omega)))
    rw [decide_eq_true rfl] at SP
    refine (SP.out).mono ?_
    rintro e w6 ⟨rfl, b6⟩
    have B6 := Lib.hid (B5.out.trans (b6.mono B5.out.size))
    have L6 := Lib.hid (L5.out.below b6)
    have VP6 := Lib.hid (VP5.out.below b6)
    have VL6 := Lib.hid (VL5.out.below b6)
    have N6 := Lib.hid (N5.out.below b6)
    have VQ6 := Lib.hid (VQ.out.below b6)
    clear b6
    go_wp2_with fail
    clear SP
    refine (plines_any N6.out I1.out).mono ?_
    rintro e w7 ⟨vl2, rfl, hv7, b7⟩
    have B7 := Lib.hid (B6.out.trans (b7.mono B6.out.size))
    have L7 := Lib.hid (L6.out.below b7)
    have VP7 := Lib.hid (VP6.out.below b7)
    have VL7 := Lib.hid (VL6.out.below b7)
    have N7 := Lib.hid (N6.out.below b7)
    have VQ7 := Lib.hid (VQ6.out.below b7)
    clear b7
    have VM := Lib.hid hv7
    clear hv7
    go_wp2_with fail
    have SL := Lib.hid (SameLines_any (VM.out.reads (by have := I1.out.len; omega)) (VL7.out.reads (by have := I1.out.len; omega)))
    rw [decide_eq_true rfl] at SL
    refine (SL.out).mono ?_
    rintro e w8 ⟨rfl, b8⟩
    have B8 := Lib.hid (B7.out.trans (b8.mono B7.out.size))
    have L8 := Lib.hid (L7.out.below b8)
    have VP8 := Lib.hid (VP7.out.below b8)
    have VL8 := Lib.hid (VL7.out.below b8)
    have N8 := Lib.hid (N7.out.below b8)
    have VQ8 := Lib.hid (VQ7.out.below b8)
    have VM8 := Lib.hid (VM.out.below b8)
    clear b8
    clear SL
    obtain ⟨al, cap, hvv, hc1, hc2, hrow⟩ := VL8.out.open
    subst hvv
    unfold maxLen at hc2
    have hlen := I1.out.len
    by_cases h0 : ls.length = 0
    · have s0 : ((ls.length : Int) == 0) = true := by simp [h0]
      go_wp2_with fail
      refine (lives03_any _).mono ?_
      rintro e w9 ⟨rfl, b9⟩
      have B9 := Lib.hid (B8.out.trans (b9.mono B8.out.size))
      clear b9
      go_wp2_with fail
      go_ret
      exact ⟨rfl, B9.out⟩
    have s0 : ((ls.length : Int) == 0) = false := by simp [h0]
    have hpos : 0 < ls.length := by omega
    obtain ⟨g, rfl, hgb, hgl, hcl, hfz⟩ := hrow hpos
    go_wp2_with fail
    obtain ⟨i, hin, hie⟩ : ∃ i : Nat, i < ls.length ∧ (wrap64 at_).tmod (ls.length : Int) = i := by
      obtain ⟨a1, a2⟩ := hat
      have hw : wrap64 at_ = at_ := wrap64_of _ (by unfold In64; omega)
      rw [hw, Int.tmod_eq_emod_of_nonneg a1]
      have h1 := Int.emod_nonneg at_ (b := (ls.length : Int)) (by omega)
      have h2 := Int.emod_lt_of_pos at_ (b := (ls.length : Int)) (by omega)
      exact ⟨(at_ % (ls.length : Int)).toNat, by omega, by omega⟩
    rw [hie]
    clear hie hat
    have HLc := Lib.hid hcl
    clear hcl hrow
    refine region_ghost (by kernel_rfl) (fun s : Value × Value => [(.slice (some ⟨g, 0, none⟩) ls.length cap), (.int .i64 i), (.int .i64 ((i : Int) + 1)), (.slice (some ⟨g, 0, none⟩) (i + 1) cap), s.1, (.slice (some ⟨g, 0, none⟩) ls.length cap), (.int .i64 i), (.slice (some ⟨g, i * 5, none⟩) (ls.length - i) (cap - i)), s.2, s.2])
      (TwiceI w8 ls i) (by kernel_rfl) (undef, undef) ⟨(Below.refl _ _).drew, fun d => (Bool.false_ne_true d).elim, fun d => (Bool.false_ne_true d).elim⟩ ?_
    intro AF hAF
    simp only [List.toList_toArray, puts, Act.put, List.getD_cons_zero, List.getD_cons_succ, List.setIfInBounds_toArray, List.set_cons_succ, List.set_cons_zero] at hAF
    have hAF2 : _ = AF := funext hAF
    subst hAF2
    clear hAF
    refine ⟨?_, ?_⟩
    · simp only [List.toList_toArray, EachG]
      refine ⟨?_, ?_, ?_, ?_, ?_, ?_, ?_, ?_, ?_, ?_, trivial⟩
      · intro s D w' hD hW hC hI
        refine ⟨s, fun _ _ _ => rfl, ?_⟩
        with_reducible refine OpTo.plain ?_ ?_
        exact rfl
        have HS := Lib.hid (hI.step (k := 0) (by decide) (by decide))
        clear hI hC hW hD
        go_wp2_with fail
        all_goals first | exact HS.out | exact ⟨rfl, HS.out⟩ | rfl
      · intro s D w' hD hW hC hI
        refine ⟨s, fun _ _ _ => rfl, ?_⟩
        with_reducible refine OpTo.plain ?_ ?_
        exact rfl
        have HS := Lib.hid (hI.step (k := 1) (by decide) (by decide))
        clear hI hC hW hD
        go_wp2_with fail
        all_goals first | exact HS.out | exact ⟨rfl, HS.out⟩ | rfl
      · intro s D w' hD hW hC hI
        refine ⟨s, fun _ _ _ => rfl, ?_⟩
        with_reducible refine OpTo.plain ?_ ?_
        exact rfl
        have HS := Lib.hid (hI.step (k := 2) (by decide) (by decide))
        clear hI hC hW hD
        go_wp2_with fail
        all_goals first | exact HS.out | exact ⟨rfl, HS.out⟩ | rfl
      · intro s D w' hD hW hC hI
        refine ⟨s, fun _ _ _ => rfl, ?_⟩
        with_reducible refine OpTo.plain ?_ ?_
        exact rfl
        have HS := Lib.hid (hI.step (k := 3) (by decide) (by decide))
        clear hI hC hW hD
        go_wp2_with fail
        all_goals first | exact HS.out | exact ⟨rfl, HS.out⟩ | rfl
      · intro s D w' hD hW hC hI
        have hN : D 8 = false := not_done hC hD rfl ⟨⟨4, .data⟩, by simp, rfl, rfl⟩
        obtain ⟨q1, q2, q3⟩ := hI
        have hl1 : (ls.take (i + 1)).length = i + 1 := by rw [List.length_take]; omega
        obtain ⟨v', w2, hrun, how, hgr⟩ := run_append_lines (w := w') (base := w8.heap.size) (v := .slice none 0 0) (n := 0) (xs := []) (World.ownsRow_nil _ _ _ _) (by omega) g 0 (i + 1) cap (by omega) (ls.take (i + 1)) hl1 (fun j hj => by
          rw [Nat.zero_add, lnCells_take ls (by omega) hj]
          exact (q1.cell (p := ⟨g, j, none⟩) hgl).trans (HLc.out j (by omega))) 49 q1.size
        rw [Nat.zero_add, List.nil_append] at how
        refine ⟨(v', s.2), ?_, ?_⟩
        · intro j hj hDj
          match j, hj, hDj with
          | 0, _, _ => rfl
          | 1, _, _ => rfl
          | 2, _, _ => rfl
          | 3, _, _ => rfl
          | 4, _, h => simp_all
          | 5, _, _ => rfl
          | 6, _, _ => rfl
          | 7, _, _ => rfl
          | 8, _, _ => rfl
          | 9, _, _ => rfl
          | j + 10, _, _ => rfl
        with_reducible refine OpTo.plain ?_ ?_
        exact rfl
        refine wp_append_two (.const (.slice none 0 0)) (.tmp 62) 49 rfl rfl rfl hrun ⟨rfl, ?_⟩
        refine ⟨q1.grown hgr q1.size (fun k hk => by cases hk), fun _ _ => how, fun d => ?_⟩
        simp [ins, hN] at d
      · intro s D w' hD hW hC hI
        refine ⟨s, fun _ _ _ => rfl, ?_⟩
        with_reducible refine OpTo.plain ?_ ?_
        exact rfl
        have HS := Lib.hid (hI.step (k := 5) (by decide) (by decide))
        clear hI hC hW hD
        go_wp2_with fail
        all_goals first | exact HS.out | exact ⟨rfl, HS.out⟩ | rfl
      · intro s D w' hD hW hC hI
        refine ⟨s, fun _ _ _ => rfl, ?_⟩
        with_reducible refine OpTo.plain ?_ ?_
        exact rfl
        have HS := Lib.hid (hI.step (k := 6) (by decide) (by decide))
        clear hI hC hW hD
        go_wp2_with fail
        all_goals first | exact HS.out | exact ⟨rfl, HS.out⟩ | rfl
      · intro s D w' hD hW hC hI
        refine ⟨s, fun _ _ _ => rfl, ?_⟩
        with_reducible refine OpTo.plain ?_ ?_
        exact rfl
        have HS := Lib.hid (hI.step (k := 7) (by decide) (by decide))
        clear hI hC hW hD
        go_wp2_with fail
        all_goals first | exact HS.out | exact ⟨rfl, HS.out⟩ | rfl
      · intro s D w' hD hW hC hI
        have hP : D 4 = true := waited_done hC hW (d := 12) (by kernel_rfl)
        obtain ⟨q1, q2, q3⟩ := hI
        have hown := q2 hP hD
        have hl1 : (ls.drop i).length = ls.length - i := by rw [List.length_drop]
        obtain ⟨v', w2, hrun, how, hgr⟩ := run_append_lines (w := w') hown (by omega) g (i * 5) (ls.length - i) (cap - i) (by omega) (ls.drop i) hl1 (fun j hj => by
          rw [lnCells_drop ls (by omega)]
          exact (q1.cell (p := ⟨g, i * 5 + j, none⟩) hgl).trans (HLc.out (i * 5 + j) (by omega))) 49 q1.size
        rw [← lnCells_app, show i + 1 + (ls.length - i) = ls.length + 1 by omega] at how
        refine ⟨(s.1, v'), ?_, ?_⟩
        · intro j hj hDj
          match j, hj, hDj with
          | 0, _, _ => rfl
          | 1, _, _ => rfl
          | 2, _, _ => rfl
          | 3, _, _ => rfl
          | 4, _, _ => rfl
          | 5, _, _ => rfl
          | 6, _, _ => rfl
          | 7, _, _ => rfl
          | 8, _, h => simp_all
          | 9, _, h => exact absurd h (by rw [not_done hC hD (k := 9) rfl ⟨⟨8, .data⟩, by simp, rfl, rfl⟩]; simp)
          | j + 10, _, _ => rfl
        with_reducible refine OpTo.plain ?_ ?_
        exact rfl
        refine wp_append_two (.tmp 63) (.tmp 66) 49 rfl rfl rfl hrun ⟨rfl, ?_⟩
        refine ⟨q1.grown hgr q1.size (fun k hk => (owns_type hown hk).1), fun _ e => ?_, fun _ => how⟩
        simp [ins] at e
      · intro s D w' hD hW hC hI
        refine ⟨s, fun _ _ _ => rfl, ?_⟩
        with_reducible refine OpTo.plain ?_ ?_
        exact rfl
        have HS := Lib.hid (hI.step (k := 9) (by decide) (by decide))
        clear hI hC hW hD
        go_wp2_with fail
        all_goals first | exact HS.out | exact ⟨rfl, HS.out⟩ | rfl
    intro s9 D w9 hall hI9
    obtain ⟨q1, _, q3⟩ := hI9
    have O9 := Lib.hid (q3 (hall 8 (by decide)))
    clear q3 hall
    obtain ⟨ta, tc, htv, _⟩ := owns_open O9.out
    obtain ⟨u9, tv⟩ := s9
    dsimp only at htv O9 ⊢
    subst htv
    have hq9 := q1.size
    have B9 := Lib.hid (B8.out.trans (q1.mono B8.out.size))
    have L9 := Lib.hid (L8.out.below q1)
    have VP9 := Lib.hid (VP8.out.below q1)
    have VL9 := Lib.hid (VL8.out.below q1)
    have N9 := Lib.hid (N8.out.below q1)
    have VQ9 := Lib.hid (VQ8.out.below q1)
    have VM9 := Lib.hid (VM8.out.below q1)
    clear q1
    have T9 := Lib.hid (show Reads w9 (.slice ta (ls.length + 1) tc) 5 (ls.take (i + 1) ++ ls.drop i).length (lnCells (ls.take (i + 1) ++ ls.drop i)) from by rw [twice_len hin]; exact Reads.of_owns O9.out (by omega))
    clear O9
    have CT := Lib.hid (pof_bad I1.out.okP (VP9.out.reads (by have := sub_len16 I1.out; omega)) T9.out (twice_fits I1.out.fits) (twice_bad hin))
    rw [twice_len hin] at CT
    clear T9
    obtain ⟨er, her⟩ : ∃ er : Int, (if ls.length + 1 ≤ 64 then (1 : Int) else 9) = er := ⟨_, rfl⟩
    rw [her] at CT
    have HER := Lib.hid (show er = 1 ∨ (er = 9 ∧ 64 < ls.length + 1) from by split at her <;> omega)
    clear her
    go_wp2_with fail
    refine (CT.out).mono ?_
    rintro e w10 ⟨rfl, b10⟩
    have B10 := Lib.hid (B9.out.trans (b10.mono B9.out.size))
    have L10 := Lib.hid (L9.out.below b10)
    have VP10 := Lib.hid (VP9.out.below b10)
    have VL10 := Lib.hid (VL9.out.below b10)
    have N10 := Lib.hid (N9.out.below b10)
    have VQ10 := Lib.hid (VQ9.out.below b10)
    have VM10 := Lib.hid (VM9.out.below b10)
    clear b10
    clear CT
    obtain ⟨_, _, hvv, _, _, hrow⟩ := VL10.out.open
    cases hvv
    obtain ⟨_, hg', _, hgl10, hcl, hfz10⟩ := hrow hpos
    cases hg'
    clear hrow
    have hx := I1.out.inv.good ls[i] (List.getElem_mem _)
    have hli := hx.li
    have hdb := hx.db
    have c0_10 : w10.cell? ⟨g, i * 5, none⟩ = some (.int .u8 ls[i].cr) := (hcl (i * 5 + 0) (by omega)).trans (lnCells_get ls i 0 (by omega) hin)
    have c1_10 : w10.cell? ⟨g, i * 5 + 1, none⟩ = some (.int .u8 ls[i].de) := (hcl (i * 5 + 1) (by omega)).trans (lnCells_get ls i 1 (by omega) hin)
    have c2_10 : w10.cell? ⟨g, i * 5 + 2, none⟩ = some (.int .u8 ls[i].cu) := (hcl (i * 5 + 2) (by omega)).trans (lnCells_get ls i 2 (by omega) hin)
    have c3_10 : w10.cell? ⟨g, i * 5 + 3, none⟩ = some (.int .i64 ls[i].li) := (hcl (i * 5 + 3) (by omega)).trans (lnCells_get ls i 3 (by omega) hin)
    have c4_10 : w10.cell? ⟨g, i * 5 + 4, none⟩ = some (.int .i64 ls[i].db) := (hcl (i * 5 + 4) (by omega)).trans (lnCells_get ls i 4 (by omega) hin)
    have f4_10 := hfz10 (i * 5 + 4)
    clear hcl hfz10
    have kk := (Keep.refl (· = g) w10).setCell (p := ⟨g, i * 5 + 4, none⟩) (.inl rfl) (.int .i64 (ls[i].li + 1))
    have B11 := Lib.hid (B10.out.trans (kk.below B10.out.size (fun b hb e => by omega)))
    have V11a := Lib.hid (VL10.out.set (j := i * 5 + 4) (by omega) (.int .i64 (ls[i].li + 1)))
    have V11 := V11a
    rw [← lnCells_set ls hin (by decide) (y := { ls[i] with db := ls[i].li + 1 }) rfl] at V11
    have P11 := Lib.hid (VP10.out.keep kk (fun b hb e => by
      obtain ⟨_, _, _, h1⟩ := VP10.out.type hb
      obtain ⟨_, _, _, h2⟩ := VL10.out.type (b := g) rfl
      subst e
      rw [h1] at h2
      cases h2))
    clear kk
    have hn1 : ¬ lnMay ps { ls[i] with db := ls[i].li + 1 } := fun k => by have := k.2.2.2.2.2.2; dsimp only at this; omega
    have ff := I1.out.fits ls[i] (List.getElem_mem _)
    have C11 := Lib.hid (pof_bad I1.out.okP (P11.out.reads (by have := sub_len16 I1.out; omega)) (show Reads _ _ 5 (ls.set i { ls[i] with db := ls[i].li + 1 }).length _ from by rw [List.length_set]; exact V11.out.reads (by omega)) (set_fits I1.out.fits ⟨ff.cr, ff.de, ff.cu, ff.li, by unfold In64; dsimp only; omega⟩) (set_bad hin hn1))
    rw [List.length_set, if_pos hlen] at C11
    clear hn1 ff
    generalize hW11 : w10.setCell ⟨g, i * 5 + 4, none⟩ (.int .i64 (ls[i].li + 1)) = w11 at *
    go_wp2_with fail
    clear V11 hW11 c0_10 c1_10 c2_10 c3_10 c4_10 f4_10
    refine (C11.out).mono ?_
    rintro e w12 ⟨rfl, b12⟩
    have B12 := Lib.hid (B11.out.trans (b12.mono B11.out.size))
    have VP12 := Lib.hid (P11.out.below b12)
    have VL12 := Lib.hid (V11a.out.below b12)
    clear b12
    clear C11
    obtain ⟨_, _, hvv, _, _, hrow⟩ := VL12.out.open
    cases hvv
    obtain ⟨_, hg', _, hgl12, hcl, hfz12⟩ := hrow hpos
    cases hg'
    clear hrow
    have c1_12 : w12.cell? ⟨g, i * 5 + 1, none⟩ = some (.int .u8 ls[i].de) := (hcl (i * 5 + 1) (by omega)).trans ((List.getElem?_set_ne (by omega)).trans (lnCells_get ls i 1 (by omega) hin))
    have c4_12 : w12.cell? ⟨g, i * 5 + 4, none⟩ = some (.int .i64 (ls[i].li + 1)) := (hcl (i * 5 + 4) (by omega)).trans (List.getElem?_set_self (by rw [lnCells_len]; omega))
    have f4_12 := hfz12 (i * 5 + 4)
    have f0_12 := hfz12 (i * 5)
    clear hcl
    have kk := (Keep.refl (· = g) w12).setCell (p := ⟨g, i * 5 + 4, none⟩) (.inl rfl) (.int .i64 0)
    have kk2 := kk.setCell (p := ⟨g, i * 5 + 0, none⟩) (.inl rfl) (.int .u8 ls[i].de)
    have V13 := Lib.hid (VL12.out.set (j := i * 5 + 4) (by omega) (.int .i64 0))
    rw [List.set_set, ← lnCells_set ls hin (by decide) (y := { ls[i] with db := 0 }) rfl] at V13
    have hin2 : i < (ls.set i { ls[i] with db := 0 }).length := by simpa using hin
    have V14 := Lib.hid (V13.out.set (j := i * 5 + 0) (by omega) (.int .u8 ls[i].de))
    rw [← lnCells_set (ls.set i { ls[i] with db := 0 }) hin2 (by decide) (y := { ls[i] with db := 0, cr := ls[i].de }) (by rw [List.getElem_set_self]; rfl), List.set_set] at V14
    have B14 := Lib.hid (B12.out.trans (kk2.below B12.out.size (fun b hb e => by omega)))
    have P14 := Lib.hid (VP12.out.keep kk2 (fun b hb e => by
      obtain ⟨_, _, _, h1⟩ := VP12.out.type hb
      obtain ⟨_, _, _, h2⟩ := VL12.out.type (b := g) rfl
      subst e
      rw [h1] at h2
      cases h2))
    obtain ⟨_, _, hvv, _, _, hrow⟩ := V13.out.open
    cases hvv
    obtain ⟨_, hg', _, hgl13, hcl, hfz13⟩ := hrow hpos
    cases hg'
    clear hrow
    have c1_13 := (hcl (i * 5 + 1) (by omega)).trans (lnCells_get (ls.set i { ls[i] with db := 0 }) i 1 (by omega) hin2)
    rw [List.getElem_set_self] at c1_13
    replace c1_13 : _ = (some (Value.int .u8 ls[i].de) : Option Value) := c1_13
    have c0_13 := (hcl (i * 5 + 0) (by omega)).trans (lnCells_get (ls.set i { ls[i] with db := 0 }) i 0 (by omega) hin2)
    rw [List.getElem_set_self] at c0_13
    replace c0_13 : _ = (some (Value.int .u8 ls[i].cr) : Option Value) := c0_13
    have f0_13 := hfz13 (i * 5 + 0)
    clear hcl kk kk2 V13 hfz12 hfz13
    have hn1 : ¬ lnMay ps { ls[i] with db := 0, cr := ls[i].de } := fun k => by have := k.1; unfold mayE at this; simp at this
    have ff := I1.out.fits ls[i] (List.getElem_mem _)
    have C14 := Lib.hid (pof_bad I1.out.okP (P14.out.reads (by have := sub_len16 I1.out; omega)) (show Reads _ _ 5 (ls.set i { ls[i] with db := 0, cr := ls[i].de }).length _ from by rw [List.length_set]; exact V14.out.reads (by omega)) (set_fits I1.out.fits ⟨ff.de, ff.de, ff.cu, ff.li, by unfold In64; dsimp only; omega⟩) (set_bad hin hn1))
    rw [List.length_set, if_pos hlen] at C14
    clear hn1 ff V14 P14
    simp only [Nat.add_zero] at c0_13 f0_13 C14 B14
    go_wp2_with fail
    refine (C14.out).mono ?_
    rintro e w15 ⟨rfl, b15⟩
    have B15 := Lib.hid (B14.out.trans (b15.mono B14.out.size))
    clear b15 C14 B14 c0_13 c1_13 f0_13 c1_12 c4_12 f4_12 f0_12
    rcases HER.out with rfl | ⟨rfl, h65⟩
    · go_wp2_with fail
      refine (lives03_any _).mono ?_
      rintro e w16 ⟨rfl, b16⟩
      have B16 := Lib.hid (B15.out.trans (b16.mono B15.out.size))
      clear b16
      go_wp2_with fail
      go_ret
      exact ⟨rfl, B16.out⟩
    · go_wp2_with fail
      refine (lives03_any _).mono ?_
      rintro e w16 ⟨rfl, b16⟩
      have B16 := Lib.hid (B15.out.trans (b16.mono B15.out.size))
      clear b16
      go_wp2_with fail
      go_ret
      exact ⟨rfl, B16.out⟩

end Go.Proofs.Ytlcilpeljnoclaa
