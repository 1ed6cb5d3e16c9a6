/-
  countinghouseref02: Compare.
-/
import Derived.Test.YtdbdeodcldogmaaRef02d
import Derived.Test.YtdbdeodcldogmaaRegionG
namespace Go.Proofs.Ytdbdeodcldogmaa
open Go.RowKit
set_option linter.unusedSimpArgs false
set_option linter.unusedVariables false

set_option maxHeartbeats 8000000 in
set_option maxRecDepth 100000 in
theorem rcompare_both (an ad bn bd : Nat) (w : World) (h1 : mayB an ad = true) (h2 : mayB bn bd = true) :
    Calls Try.prog 51 #[.agg #[.int .i64 an, .int .i64 ad], .agg #[.int .i64 bn, .int .i64 bd]] w fun e w' => e = .returned (.int .i64 (cmpI (an * bd : Nat) (bn * ad : Nat))) ∧ Below w.heap.size w w' := by
  have hz := zero_arr
  have hfl := run_field_bits
  obtain ⟨p1, p2, p3, p4, _⟩ := may_bd h1
  obtain ⟨q1, q2, q3, q4, _⟩ := may_bd h2
  have c1 := Lib.hid (fun w => rmay_any an ad w)
  have c2 := Lib.hid (fun w => rmay_any bn bd w)
  rw [h1] at c1; rw [h2] at c2
  have oA := Lib.hid (fun w => of_any (an : Int) w ⟨by omega, by omega⟩)
  have oB := Lib.hid (fun w => of_any (bn : Int) w ⟨by omega, by omega⟩)
  have oC := Lib.hid (fun w => of_any (ad : Int) w ⟨by omega, by omega⟩)
  have oD := Lib.hid (fun w => of_any (bd : Int) w ⟨by omega, by omega⟩)
  rw [decide_eq_false (by omega), Int.natAbs_natCast] at oA oB oC oD
  have tX := Lib.hid (fun w => times_any false false an bd w (by omega))
  have tY := Lib.hid (fun w => times_any false false bn ad w (by omega))
  have hX : an * bd < 2 ^ 192 := Nat.lt_of_le_of_lt (Nat.mul_le_mul (show an ≤ 1099511627776 by omega) (show bd ≤ 1099511627776 by omega)) (by decide)
  have hY : bn * ad < 2 ^ 192 := Nat.lt_of_le_of_lt (Nat.mul_le_mul (show bn ≤ 1099511627776 by omega) (show ad ≤ 1099511627776 by omega)) (by decide)
  have gXY := Lib.hid (fun w => rgreater_any (an * bd) (bn * ad) w hX hY)
  have gYX := Lib.hid (fun w => rgreater_any (bn * ad) (an * bd) w hY hX)
  have k1 : Blk ((w.alloc (.cells #[.int .i64 an, .int .i64 ad] 37)).alloc (.cells #[.int .i64 bn, .int .i64 bd] 37)) w.heap.size #[.int .i64 an, .int .i64 ad] 37 := (Blk.new _ _ _).alloc _
  have k2 : Blk ((w.alloc (.cells #[.int .i64 an, .int .i64 ad] 37)).alloc (.cells #[.int .i64 bn, .int .i64 bd] 37)) (w.heap.size + 1) #[.int .i64 bn, .int .i64 bd] 37 := Blk.newAt _ _ _ (by simp)
  have b0 : Below w.heap.size w ((w.alloc (.cells #[.int .i64 an, .int .i64 ad] 37)).alloc (.cells #[.int .i64 bn, .int .i64 bd] 37)) := ((Below.refl _ _).alloc (Nat.le_refl _) _).alloc (by simp) _
  have K1 := Lib.hid k1; have K2 := Lib.hid k2; have B0 := Lib.hid b0
  clear k1 k2 b0 h1 h2 p1 p2 p3 p4 q1 q2 q3 q4 hX hY
  generalize an * bd = x at *
  generalize bn * ad = y at *
  rw [show cmpI (x : Int) (y : Int) = (if decide (y < x) = true then 1 else if decide (x < y) = true then -1 else 0) by unfold cmpI; simp only [decide_eq_true_eq]; (repeat' split) <;> omega]
  generalize decide (y < x) = p at *
  generalize decide (x < y) = q at *
  unfold wholeV at *
  unfold bitsV at *
  go_enter Try.func51, Try.ntmps51
  go_wp2_with fail
  refine (c1.out _).mono ?_
  rintro e w1 ⟨rfl, b1⟩
  have B1 := Lib.hid (B0.out.trans (b1.mono (by simp; omega)))
  have R1 := Lib.hid (K1.out.below b1 K1.out.lt); have R2 := Lib.hid (K2.out.below b1 K2.out.lt)
  have e0 := R2.out.cell 0; have e1 := R2.out.cell 1
  simp at e0 e1
  clear b1
  go_wp2_with fail
  refine (c2.out _).mono ?_
  rintro e w2 ⟨rfl, b2⟩
  have B2 := Lib.hid (B1.out.trans (b2.mono B1.out.size))
  have S1 := Lib.hid (R1.out.below b2 R1.out.lt); have S2 := Lib.hid (R2.out.below b2 R2.out.lt)
  clear b2 e0 e1
  go_wp2_with fail
  refine region_ghost (by kernel_rfl) (fun g => [.pointer (some ⟨w.heap.size, 0, none⟩), .int .i64 an, .agg (whole false an.testBit), .pointer (some ⟨w.heap.size + 1, 1, none⟩), .int .i64 bd, .agg (whole false bd.testBit), .agg (whole false x.testBit), .agg (arr x.testBit), .pointer (some ⟨g, 0, none⟩)])
    (Laid w2 8 9 (arr fun _ => false) (arr x.testBit) 108) (by kernel_rfl) 0 ⟨(Below.refl _ _).drew, by simp, by simp⟩ ?_
  intro AF hAF
  simp only [puts, Act.put, List.getD_cons_zero, List.getD_cons_succ, List.setIfInBounds_toArray, List.set_cons_succ, List.set_cons_zero] at hAF
  have hAF2 : _ = AF := funext hAF
  subst hAF2
  clear hAF
  refine ⟨?_, ?_⟩
  · simp only [EachG]
    refine ⟨?_, ?_, ?_, ?_, ?_, ?_, ?_, ?_, ?_, ?_, trivial⟩
    · intro g D w' hD _ _ hI
      refine ⟨g, fun _ _ _ => rfl, ?_⟩
      with_reducible refine OpTo.plain ?_ ?_
      exact rfl
      have hI' := Lib.hid (hI.step (Below.refl _ _) (k := 0) (by decide) (by decide))
      clear hI
      go_wp2_with fail
      all_goals first | exact hI'.out | exact ⟨rfl, hI'.out⟩ | rfl
    · intro g D w' hD _ _ hI
      refine ⟨g, fun _ _ _ => rfl, ?_⟩
      with_reducible refine OpTo.plain ?_ ?_
      exact rfl
      have hI' := Lib.hid (hI.step (Below.refl _ _) (k := 1) (by decide) (by decide))
      have d0 := (S1.out.below hI.1 S1.out.lt).cell 0
      simp at d0
      clear hI
      go_wp2_with fail
      all_goals first | exact hI'.out | exact ⟨rfl, hI'.out⟩ | rfl
    · intro g D w' hD _ _ hI
      refine ⟨g, fun _ _ _ => rfl, ?_⟩
      with_reducible refine OpTo.plain ?_ ?_
      exact rfl
      have HI := Lib.hid hI
      clear hI
      go_wp2_with fail
      refine (oA.out w').mono ?_
      rintro e w'' ⟨rfl, hb2⟩
      exact ⟨rfl, HI.out.step hb2 (by decide) (by decide)⟩
    · intro g D w' hD _ _ hI
      refine ⟨g, fun _ _ _ => rfl, ?_⟩
      with_reducible refine OpTo.plain ?_ ?_
      exact rfl
      have hI' := Lib.hid (hI.step (Below.refl _ _) (k := 3) (by decide) (by decide))
      clear hI
      go_wp2_with fail
      all_goals first | exact hI'.out | exact ⟨rfl, hI'.out⟩ | rfl
    · intro g D w' hD _ _ hI
      refine ⟨g, fun _ _ _ => rfl, ?_⟩
      with_reducible refine OpTo.plain ?_ ?_
      exact rfl
      have hI' := Lib.hid (hI.step (Below.refl _ _) (k := 4) (by decide) (by decide))
      have d0 := (S2.out.below hI.1 S2.out.lt).cell 1
      simp at d0
      clear hI
      go_wp2_with fail
      all_goals first | exact hI'.out | exact ⟨rfl, hI'.out⟩ | rfl
    · intro g D w' hD _ _ hI
      refine ⟨g, fun _ _ _ => rfl, ?_⟩
      with_reducible refine OpTo.plain ?_ ?_
      exact rfl
      have HI := Lib.hid hI
      clear hI
      go_wp2_with fail
      refine (oD.out w').mono ?_
      rintro e w'' ⟨rfl, hb2⟩
      exact ⟨rfl, HI.out.step hb2 (by decide) (by decide)⟩
    · intro g D w' hD _ _ hI
      refine ⟨g, fun _ _ _ => rfl, ?_⟩
      with_reducible refine OpTo.plain ?_ ?_
      exact rfl
      have HI := Lib.hid hI
      clear hI
      go_wp2_with fail
      refine (tX.out w').mono ?_
      rintro e w'' ⟨rfl, hb2⟩
      exact ⟨rfl, HI.out.step hb2 (by decide) (by decide)⟩
    · intro g D w' hD _ _ hI
      refine ⟨g, fun _ _ _ => rfl, ?_⟩
      with_reducible refine OpTo.plain ?_ ?_
      exact rfl
      have hI' := Lib.hid (hI.step (Below.refl _ _) (k := 7) (by decide) (by decide))
      clear hI
      go_wp2_with fail
      all_goals first | exact hI'.out | exact ⟨rfl, hI'.out⟩ | rfl
    · intro g D w' hD _ hC hI
      have h9 : D 9 = false := by
        by_cases h : D 9 = true
        · have := hC 9 _ rfl h ⟨8, .data⟩ (by simp) rfl
          rw [hD] at this; cases this
        · simpa using h
      refine ⟨w'.heap.size, ?_, ?_⟩
      · intro j hj hDj
        match j, hj, hDj with
        | 0, _, _ => rfl
        | 1, _, _ => rfl
        | 2, _, _ => rfl
        | 3, _, _ => rfl
        | 4, _, _ => rfl
        | 5, _, _ => rfl
        | 6, _, _ => rfl
        | 7, _, _ => rfl
        | 8, _, h => rw [hD] at h; cases h
        | j + 9, _, _ => rfl
      with_reducible refine OpTo.plain ?_ ?_
      exact rfl
      have hI' := Lib.hid (hI.lay h9 (by decide))
      clear hI h9
      go_wp2_with fail
      all_goals first | exact hI'.out | exact ⟨rfl, hI'.out⟩ | rfl
    · intro g D w' hD hW _ hI
      have h8 : D 8 = true := hW ⟨8, .data⟩ (by simp) rfl
      obtain ⟨hg, hk⟩ := hI.2.1 h8 hD
      refine ⟨g, fun _ _ _ => rfl, ?_⟩
      with_reducible refine OpTo.plain ?_ ?_
      exact rfl
      refine wp_store_row 108 (.tmp 5) (.tmp 22) rfl g (arr x.testBit) rfl rfl 108 _ hk.out (info_arr _) (by rw [arr_size, arr_size]) (arr_one _) ⟨rfl, ?_⟩
      exact hI.fill (below_setRow hI.1 hg _) hg hk.row
  intro g3 D w3' hall hI
  obtain ⟨hb3, _, h9⟩ := hI
  obtain ⟨hg3, hk3⟩ := h9 (hall 9 (by decide))
  have B3 := Lib.hid (B2.out.trans (hb3.mono B2.out.size))
  have T1 := Lib.hid (S1.out.below hb3 S1.out.lt); have T2 := Lib.hid (S2.out.below hb3 S2.out.lt)
  have KX := Lib.hid hk3
  have GX := Lib.hid (Nat.le_trans B2.out.size hg3)
  clear hb3 h9 hg3 hk3 hall
  go_wp2_with fail
  refine region_ghost (by kernel_rfl) (fun g => [.pointer (some ⟨w.heap.size + 1, 0, none⟩), .int .i64 bn, .agg (whole false bn.testBit), .pointer (some ⟨w.heap.size, 1, none⟩), .int .i64 ad, .agg (whole false ad.testBit), .agg (whole false y.testBit), .agg (arr y.testBit), .pointer (some ⟨g, 0, none⟩)])
    (Laid w3' 8 9 (arr fun _ => false) (arr y.testBit) 108) (by kernel_rfl) 0 ⟨(Below.refl _ _).drew, by simp, by simp⟩ ?_
  intro AF hAF
  simp only [puts, Act.put, List.getD_cons_zero, List.getD_cons_succ, List.setIfInBounds_toArray, List.set_cons_succ, List.set_cons_zero] at hAF
  have hAF2 : _ = AF := funext hAF
  subst hAF2
  clear hAF
  refine ⟨?_, ?_⟩
  · simp only [EachG]
    refine ⟨?_, ?_, ?_, ?_, ?_, ?_, ?_, ?_, ?_, ?_, trivial⟩
    · intro g D w' hD _ _ hI
      refine ⟨g, fun _ _ _ => rfl, ?_⟩
      with_reducible refine OpTo.plain ?_ ?_
      exact rfl
      have hI' := Lib.hid (hI.step (Below.refl _ _) (k := 0) (by decide) (by decide))
      clear hI
      go_wp2_with fail
      all_goals first | exact hI'.out | exact ⟨rfl, hI'.out⟩ | rfl
    · intro g D w' hD _ _ hI
      refine ⟨g, fun _ _ _ => rfl, ?_⟩
      with_reducible refine OpTo.plain ?_ ?_
      exact rfl
      have hI' := Lib.hid (hI.step (Below.refl _ _) (k := 1) (by decide) (by decide))
      have d0 := (T2.out.below hI.1 T2.out.lt).cell 0
      simp at d0
      clear hI
      go_wp2_with fail
      all_goals first | exact hI'.out | exact ⟨rfl, hI'.out⟩ | rfl
    · intro g D w' hD _ _ hI
      refine ⟨g, fun _ _ _ => rfl, ?_⟩
      with_reducible refine OpTo.plain ?_ ?_
      exact rfl
      have HI := Lib.hid hI
      clear hI
      go_wp2_with fail
      refine (oB.out w').mono ?_
      rintro e w'' ⟨rfl, hb2⟩
      exact ⟨rfl, HI.out.step hb2 (by decide) (by decide)⟩
    · intro g D w' hD _ _ hI
      refine ⟨g, fun _ _ _ => rfl, ?_⟩
      with_reducible refine OpTo.plain ?_ ?_
      exact rfl
      have hI' := Lib.hid (hI.step (Below.refl _ _) (k := 3) (by decide) (by decide))
      clear hI
      go_wp2_with fail
      all_goals first | exact hI'.out | exact ⟨rfl, hI'.out⟩ | rfl
    · intro g D w' hD _ _ hI
      refine ⟨g, fun _ _ _ => rfl, ?_⟩
      with_reducible refine OpTo.plain ?_ ?_
      exact rfl
      have hI' := Lib.hid (hI.step (Below.refl _ _) (k := 4) (by decide) (by decide))
      have d0 := (T1.out.below hI.1 T1.out.lt).cell 1
      simp at d0
      clear hI
      go_wp2_with fail
      all_goals first | exact hI'.out | exact ⟨rfl, hI'.out⟩ | rfl
    · intro g D w' hD _ _ hI
      refine ⟨g, fun _ _ _ => rfl, ?_⟩
      with_reducible refine OpTo.plain ?_ ?_
      exact rfl
      have HI := Lib.hid hI
      clear hI
      go_wp2_with fail
      refine (oC.out w').mono ?_
      rintro e w'' ⟨rfl, hb2⟩
      exact ⟨rfl, HI.out.step hb2 (by decide) (by decide)⟩
    · intro g D w' hD _ _ hI
      refine ⟨g, fun _ _ _ => rfl, ?_⟩
      with_reducible refine OpTo.plain ?_ ?_
      exact rfl
      have HI := Lib.hid hI
      clear hI
      go_wp2_with fail
      refine (tY.out w').mono ?_
      rintro e w'' ⟨rfl, hb2⟩
      exact ⟨rfl, HI.out.step hb2 (by decide) (by decide)⟩
    · intro g D w' hD _ _ hI
      refine ⟨g, fun _ _ _ => rfl, ?_⟩
      with_reducible refine OpTo.plain ?_ ?_
      exact rfl
      have hI' := Lib.hid (hI.step (Below.refl _ _) (k := 7) (by decide) (by decide))
      clear hI
      go_wp2_with fail
      all_goals first | exact hI'.out | exact ⟨rfl, hI'.out⟩ | rfl
    · intro g D w' hD _ hC hI
      have h9 : D 9 = false := by
        by_cases h : D 9 = true
        · have := hC 9 _ rfl h ⟨8, .data⟩ (by simp) rfl
          rw [hD] at this; cases this
        · simpa using h
      refine ⟨w'.heap.size, ?_, ?_⟩
      · intro j hj hDj
        match j, hj, hDj with
        | 0, _, _ => rfl
        | 1, _, _ => rfl
        | 2, _, _ => rfl
        | 3, _, _ => rfl
        | 4, _, _ => rfl
        | 5, _, _ => rfl
        | 6, _, _ => rfl
        | 7, _, _ => rfl
        | 8, _, h => rw [hD] at h; cases h
        | j + 9, _, _ => rfl
      with_reducible refine OpTo.plain ?_ ?_
      exact rfl
      have hI' := Lib.hid (hI.lay h9 (by decide))
      clear hI h9
      go_wp2_with fail
      all_goals first | exact hI'.out | exact ⟨rfl, hI'.out⟩ | rfl
    · intro g D w' hD hW _ hI
      have h8 : D 8 = true := hW ⟨8, .data⟩ (by simp) rfl
      obtain ⟨hg, hk⟩ := hI.2.1 h8 hD
      refine ⟨g, fun _ _ _ => rfl, ?_⟩
      with_reducible refine OpTo.plain ?_ ?_
      exact rfl
      refine wp_store_row 108 (.tmp 6) (.tmp 30) rfl g (arr y.testBit) rfl rfl 108 _ hk.out (info_arr _) (by rw [arr_size, arr_size]) (arr_one _) ⟨rfl, ?_⟩
      exact hI.fill (below_setRow hI.1 hg _) hg hk.row
  intro g4 D w4' hall hI
  obtain ⟨hb4, _, h9⟩ := hI
  obtain ⟨hg4, hk4⟩ := h9 (hall 9 (by decide))
  have B4 := Lib.hid (B3.out.trans (hb4.mono B3.out.size))
  have KX4 := Lib.hid (KX.out.below hb4 KX.out.lt)
  have KY := Lib.hid hk4
  clear hb4 h9 hg4 hk4 hall
  dsimp only
  cases p
  · cases q
    all_goals
      go_wp2_with (first
        | ((with_reducible refine wpList_load_row ?_ 108 (.tmp 5) ?_ g3 ?_ 108 (arr x.testBit) (0, 0) _ KX4.out.out Try.underlying108 ?_ (info_arr _) ?_); exact rfl; exact rfl; exact rfl; exact rfl)
        | ((with_reducible refine wpList_load_row ?_ 108 (.tmp 6) ?_ g4 ?_ 108 (arr y.testBit) (0, 0) _ KY.out.out Try.underlying108 ?_ (info_arr _) ?_); exact rfl; exact rfl; exact rfl; exact rfl))
      refine (gXY.out _).mono ?_
      rintro e w5 ⟨rfl, b5⟩
      have KX5 := Lib.hid (KX4.out.below b5 KX4.out.lt)
      have KY5 := Lib.hid (KY.out.below b5 KY.out.lt)
      have B5 := Lib.hid (B4.out.trans (b5.mono B4.out.size))
      clear b5
      go_wp2_with (first
        | ((with_reducible refine wpList_load_row ?_ 108 (.tmp 5) ?_ g3 ?_ 108 (arr x.testBit) (0, 0) _ KX5.out.out Try.underlying108 ?_ (info_arr _) ?_); exact rfl; exact rfl; exact rfl; exact rfl)
        | ((with_reducible refine wpList_load_row ?_ 108 (.tmp 6) ?_ g4 ?_ 108 (arr y.testBit) (0, 0) _ KY5.out.out Try.underlying108 ?_ (info_arr _) ?_); exact rfl; exact rfl; exact rfl; exact rfl))
      refine (gYX.out _).mono ?_
      rintro e w6 ⟨rfl, b6⟩
      go_wp2_with fail
      go_ret
      exact ⟨rfl, B5.out.trans (b6.mono B5.out.size)⟩
  · go_wp2_with (first
      | ((with_reducible refine wpList_load_row ?_ 108 (.tmp 5) ?_ g3 ?_ 108 (arr x.testBit) (0, 0) _ KX4.out.out Try.underlying108 ?_ (info_arr _) ?_); exact rfl; exact rfl; exact rfl; exact rfl)
      | ((with_reducible refine wpList_load_row ?_ 108 (.tmp 6) ?_ g4 ?_ 108 (arr y.testBit) (0, 0) _ KY.out.out Try.underlying108 ?_ (info_arr _) ?_); exact rfl; exact rfl; exact rfl; exact rfl))
    refine (gXY.out _).mono ?_
    rintro e w5 ⟨rfl, b5⟩
    go_wp2_with fail
    go_ret
    exact ⟨rfl, B4.out.trans (b5.mono B4.out.size)⟩
set_option maxHeartbeats 1000000 in
theorem rcompare_any (an ad bn bd : Int) (w : World) :
    Calls Try.prog 51 #[.agg #[.int .i64 an, .int .i64 ad], .agg #[.int .i64 bn, .int .i64 bd]] w fun e w' => e = .returned (.int .i64 (cmpR an ad bn bd)) ∧ Below w.heap.size w w' := by
  by_cases hm : mayB an ad = true
  · by_cases hm2 : mayB bn bd = true
    · rw [show cmpR an ad bn bd = cmpI (an * bd) (bn * ad) by unfold cmpR; rw [if_pos ⟨hm, hm2⟩]]
      obtain ⟨p1, p2, p3, p4, _⟩ := may_bd hm
      obtain ⟨q1, q2, q3, q4, _⟩ := may_bd hm2
      obtain ⟨a, rfl⟩ := Int.eq_ofNat_of_zero_le (show 0 ≤ an by omega)
      obtain ⟨b, rfl⟩ := Int.eq_ofNat_of_zero_le (show 0 ≤ ad by omega)
      obtain ⟨c, rfl⟩ := Int.eq_ofNat_of_zero_le (show 0 ≤ bn by omega)
      obtain ⟨d, rfl⟩ := Int.eq_ofNat_of_zero_le (show 0 ≤ bd by omega)
      have := rcompare_both a b c d w hm hm2
      rw [show (a : Int) * (d : Int) = ((a * d : Nat) : Int) by simp, show (c : Int) * (b : Int) = ((c * b : Nat) : Int) by simp]
      exact this
    · rw [show cmpR an ad bn bd = 0 by unfold cmpR; rw [if_neg (by simp [hm2])]]
      have c1 := Lib.hid (fun w => rmay_any an ad w)
      have c2 := Lib.hid (fun w => rmay_any bn bd w)
      have k1 : Blk ((w.alloc (.cells #[.int .i64 an, .int .i64 ad] 37)).alloc (.cells #[.int .i64 bn, .int .i64 bd] 37)) (w.heap.size + 1) #[.int .i64 bn, .int .i64 bd] 37 := Blk.newAt _ _ _ (by simp)
      have b0 : Below w.heap.size w ((w.alloc (.cells #[.int .i64 an, .int .i64 ad] 37)).alloc (.cells #[.int .i64 bn, .int .i64 bd] 37)) := ((Below.refl _ _).alloc (Nat.le_refl _) _).alloc (by simp) _
      have K2 := Lib.hid k1; have B0 := Lib.hid b0
      clear k1 b0
      simp only [Bool.not_eq_true] at hm2
      rw [hm] at c1; rw [hm2] at c2
      clear hm hm2
      go_enter Try.func51, Try.ntmps51
      go_wp2_with fail
      refine (c1.out _).mono ?_
      rintro e w1 ⟨rfl, b1⟩
      have B1 := Lib.hid (B0.out.trans (b1.mono (by simp; omega)))
      have r2 := K2.out.below b1 K2.out.lt
      have e0 := r2.cell 0; have e1 := r2.cell 1
      simp at e0 e1
      clear r2 b1
      go_wp2_with fail
      refine (c2.out _).mono ?_
      rintro e w2 ⟨rfl, b2⟩
      go_wp2_with fail
      go_ret
      exact ⟨rfl, B1.out.trans (b2.mono B1.out.size)⟩
  · rw [show cmpR an ad bn bd = 0 by unfold cmpR; rw [if_neg (by simp [hm])]]
    have c1 := Lib.hid (fun w => rmay_any an ad w)
    have b0 : Below w.heap.size w ((w.alloc (.cells #[.int .i64 an, .int .i64 ad] 37)).alloc (.cells #[.int .i64 bn, .int .i64 bd] 37)) := ((Below.refl _ _).alloc (Nat.le_refl _) _).alloc (by simp) _
    have B0 := Lib.hid b0
    clear b0
    simp only [Bool.not_eq_true] at hm
    rw [hm] at c1
    clear hm
    go_enter Try.func51, Try.ntmps51
    go_wp2_with fail
    refine (c1.out _).mono ?_
    rintro e w1 ⟨rfl, b1⟩
    go_wp2_with fail
    go_ret
    exact ⟨rfl, B0.out.trans (b1.mono (by simp; omega))⟩

end Go.Proofs.Ytdbdeodcldogmaa
