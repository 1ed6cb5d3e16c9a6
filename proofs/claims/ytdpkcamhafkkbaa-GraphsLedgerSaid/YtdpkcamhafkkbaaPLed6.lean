/-
  The program's ledgers: Trust.
-/
import Derived.Test.YtdpkcamhafkkbaaPLed5
namespace Go.Proofs.Ytdpkcamhafkkbaa
open Go.RowKit
set_option linter.unusedSimpArgs false
set_option linter.unusedVariables false

set_option maxHeartbeats 8000000 in
set_option maxRecDepth 100000 in
theorem ptrust_any {w : World} {G M : Nat} {ps : List Int} {ls : List Ln} (h : LedM w G M ps ls) (hI : LInv ps ls) {a b c n : Int} (ha : In8 a) (hb : In8 b) (hc : In8 c) :
    Calls Try.prog 38 #[.pointer (some ⟨G, 0, none⟩), .int .u8 a, .int .u8 b, .int .u8 c, .int .i64 n] w fun e w' => e = .returned (.int .i64 (trustE ps ls a b c n)) ∧ LedM w' G M ps (trustL ps ls a b c n) ∧ Keep (· = M) w w' := by
  have H := Lib.hid h
  have HI := Lib.hid hI
  have HA := Lib.hid h.alls
  have HM := Lib.hid h.mades
  have HL := Lib.hid (fun w' k => (h.map.looks hI.inv ha hb hc w' k).1)
  rcases isSome_cases (lineL ls a b c) with ⟨hl, hs⟩ | ⟨x, hl, hs⟩
  · rw [lnAt_none hl, hs] at HL
    dsimp only [noLn] at HL
    clear hs h hI ha hb hc
    go_enter Try.func38, Try.ntmps38
    go_wp2_with fail
    have B0 := Lib.hid ((Below.refl w.heap.size w).alloc (Nat.le_refl _) (.cells #[.int .u8 a, .int .u8 b, .int .u8 c] 86))
    have KE := Lib.hid (Blk.new w #[.int .u8 a, .int .u8 b, .int .u8 c] 86)
    generalize (w.alloc (.cells #[.int .u8 a, .int .u8 b, .int .u8 c] 86)) = W at B0 KE ⊢
    refine region_ghost (by kernel_rfl) (fun g : Nat → Nat => [(.pointer (some ⟨G, 0, none⟩)), (.map (some M)), (.agg #[.int .u8 a, .int .u8 b, .int .u8 c]), (.tuple #[.agg #[.int .i64 0, .int .i64 0], .bool false]), (.tuple #[.agg #[.int .i64 0, .int .i64 0], .bool false]), (.agg #[.int .i64 0, .int .i64 0]), (.bool false), (.pointer (some ⟨g 7, 0, none⟩)), undef, (.bool false)])
      (Lays W [(⟨7, 8, (.cells #[.int .i64 0, .int .i64 0] 82), (.cells #[.int .i64 0, .int .i64 0] 82)⟩ : Spec)]) (by kernel_rfl) (fun _ => 0) (Lays.start _ _ _) ?_
    intro AF hAF
    simp only [List.toList_toArray, puts, Act.put, List.getD_cons_zero, List.getD_cons_succ, List.setIfInBounds_toArray, List.set_cons_succ, List.set_cons_zero] at hAF
    have hAF2 : _ = AF := funext hAF
    subst hAF2
    clear hAF
    refine ⟨?_, ?_⟩
    · simp only [List.toList_toArray, EachG]
      refine ⟨?_, ?_, ?_, ?_, ?_, ?_, ?_, ?_, ?_, ?_, trivial⟩
      · intro g D w' hD hW hC hI
        refine ⟨g, fun _ _ _ => rfl, ?_⟩
        with_reducible refine OpTo.plain ?_ ?_
        exact rfl
        have hS := hI.below
        have HS := Lib.hid (hI.step (Below.refl _ _) (k := 0) (by rfl))
        clear hI hS hC hW hD
        go_wp2_with fail
        all_goals first | exact HS.out | exact ⟨rfl, HS.out⟩ | rfl
      · intro g D w' hD hW hC hI
        refine ⟨g, fun _ _ _ => rfl, ?_⟩
        with_reducible refine OpTo.plain ?_ ?_
        exact rfl
        have hS := hI.below
        have HI := Lib.hid hI
        have HC := Lib.hid (HA.out w' (B0.out.trans (hS.mono B0.out.size)))
        clear hI hS hC hW hD
        go_wp2_with fail
        refine HC.out.mono ?_
        rintro e w'' ⟨rfl, rfl⟩
        exact ⟨rfl, HI.out.step (Below.refl _ _) (by rfl)⟩
      · intro g D w' hD hW hC hI
        refine ⟨g, fun _ _ _ => rfl, ?_⟩
        with_reducible refine OpTo.plain ?_ ?_
        exact rfl
        have hS := hI.below
        have hl0 := Nat.lt_of_lt_of_le KE.out.lt hS.size
        have d0_0 := (KE.out.below hS KE.out.lt).cell 0
        have d0_1 := (KE.out.below hS KE.out.lt).cell 1
        have d0_2 := (KE.out.below hS KE.out.lt).cell 2
        simp at d0_0 d0_1 d0_2
        have HS := Lib.hid (hI.step (Below.refl _ _) (k := 2) (by rfl))
        clear hI hS hC hW hD
        go_wp2_with fail
        all_goals first | exact HS.out | exact ⟨rfl, HS.out⟩ | rfl
      · intro g D w' hD hW hC hI
        refine ⟨g, fun _ _ _ => rfl, ?_⟩
        with_reducible refine OpTo.plain ?_ ?_
        exact rfl
        have hS := hI.below
        have q := HL.out w' (B0.out.trans (hS.mono B0.out.size))
        have HS := Lib.hid (hI.step (Below.refl _ _) (k := 3) (by rfl))
        clear hI hS hC hW hD
        go_wp2_with fail
        all_goals first | exact HS.out | exact ⟨rfl, HS.out⟩ | rfl
      · intro g D w' hD hW hC hI
        refine ⟨g, fun _ _ _ => rfl, ?_⟩
        with_reducible refine OpTo.plain ?_ ?_
        exact rfl
        have hS := hI.below
        have HS := Lib.hid (hI.step (Below.refl _ _) (k := 4) (by rfl))
        clear hI hS hC hW hD
        go_wp2_with fail
        all_goals first | exact HS.out | exact ⟨rfl, HS.out⟩ | rfl
      · intro g D w' hD hW hC hI
        refine ⟨g, fun _ _ _ => rfl, ?_⟩
        with_reducible refine OpTo.plain ?_ ?_
        exact rfl
        have hS := hI.below
        have HS := Lib.hid (hI.step (Below.refl _ _) (k := 5) (by rfl))
        clear hI hS hC hW hD
        go_wp2_with fail
        all_goals first | exact HS.out | exact ⟨rfl, HS.out⟩ | rfl
      · intro g D w' hD hW hC hI
        refine ⟨g, fun _ _ _ => rfl, ?_⟩
        with_reducible refine OpTo.plain ?_ ?_
        exact rfl
        have hS := hI.below
        have HS := Lib.hid (hI.step (Below.refl _ _) (k := 6) (by rfl))
        clear hI hS hC hW hD
        go_wp2_with fail
        all_goals first | exact HS.out | exact ⟨rfl, HS.out⟩ | rfl
      · intro g D w' hD hW hC hI
        have hN : D 8 = false := waits_not hC hD 12 8 (by kernel_rfl)
        refine ⟨upd g 7 w'.heap.size, vals_upd _ (fun g : Nat → Nat => [(.pointer (some ⟨G, 0, none⟩)), (.map (some M)), (.agg #[.int .u8 a, .int .u8 b, .int .u8 c]), (.tuple #[.agg #[.int .i64 0, .int .i64 0], .bool false]), (.tuple #[.agg #[.int .i64 0, .int .i64 0], .bool false]), (.agg #[.int .i64 0, .int .i64 0]), (.bool false), (.pointer (some ⟨g 7, 0, none⟩)), undef, (.bool false)]) g 7 _ 12 hC hD ?_, ?_⟩
        · intro j hj
          match j, hj with
          | 0, _ => exact .inr rfl
          | 1, _ => exact .inr rfl
          | 2, _ => exact .inr rfl
          | 3, _ => exact .inr rfl
          | 4, _ => exact .inr rfl
          | 5, _ => exact .inr rfl
          | 6, _ => exact .inr rfl
          | 7, _ => exact .inl (.inl rfl)
          | 8, _ => exact .inr rfl
          | 9, _ => exact .inr rfl
          | j + 10, _ => exact .inr rfl
        with_reducible refine OpTo.plain ?_ ?_
        exact rfl
        have HS := Lib.hid (hI.lay (⟨7, 8, (.cells #[.int .i64 0, .int .i64 0] 82), (.cells #[.int .i64 0, .int .i64 0] 82)⟩ : Spec) (by simp) (by rfl) (.inr hN) (by rfl) (fun s' hs' _ => List.mem_singleton.1 hs') (.cells #[.int .i64 0, .int .i64 0] 82) rfl)
        clear hI hC hW hD hN
        go_wp2_with fail
        all_goals first | exact HS.out | exact ⟨rfl, HS.out⟩ | rfl
      · intro g D w' hD hW hC hI
        have hP : D 7 = true := waited_done hC hW (d := 12) (by kernel_rfl)
        obtain ⟨hg, hk⟩ := hI.zeroed (⟨7, 8, (.cells #[.int .i64 0, .int .i64 0] 82), (.cells #[.int .i64 0, .int .i64 0] 82)⟩ : Spec) (by simp) hP hD
        refine ⟨g, fun _ _ _ => rfl, ?_⟩
        with_reducible refine OpTo.plain ?_ ?_
        exact rfl
        refine wp_store_row 82 (.tmp 12) (.tmp 23) rfl (g 7) #[.int .i64 0, .int .i64 0] rfl rfl 82 _ hk (by kernel_rfl) rfl (by simp [Value.oneCell']) ⟨rfl, ?_⟩
        exact hI.fill (⟨7, 8, (.cells #[.int .i64 0, .int .i64 0] 82), (.cells #[.int .i64 0, .int .i64 0] 82)⟩ : Spec) (by simp) (by rfl) (show (8 : Nat) ≠ 7 by decide) (fun s' hs' _ => List.mem_singleton.1 hs') hP (below_keepRow _ _) (setRow_heap w' (g 7) _ _ 82 (0, 0) hk)
      · intro g D w' hD hW hC hI
        refine ⟨g, fun _ _ _ => rfl, ?_⟩
        with_reducible refine OpTo.plain ?_ ?_
        exact rfl
        have hS := hI.below
        have HS := Lib.hid (hI.step (Below.refl _ _) (k := 9) (by rfl))
        clear hI hS hC hW hD
        go_wp2_with fail
        all_goals first | exact HS.out | exact ⟨rfl, HS.out⟩ | rfl
    intro g1 D w2 hall hI2
    obtain ⟨hg1, hk1⟩ := hI2.full (⟨7, 8, (.cells #[.int .i64 0, .int .i64 0] 82), (.cells #[.int .i64 0, .int .i64 0] 82)⟩ : Spec) (by simp) (hall 7 (by decide)) (hall 8 (by decide))
    have B2 := Lib.hid (B0.out.trans (hI2.below.mono B0.out.size))
    have KE2 := Lib.hid (KE.out.below hI2.below KE.out.lt)
    have KA2 : Hid (Blk w2 (g1 7) #[.int .i64 0, .int .i64 0] 82) := Lib.hid hk1
    have C2 := Lib.hid (HM.out w2 B2.out)
    have CM := Lib.hid (may_any a b c w2)
    dsimp only
    generalize g1 7 = ga at *
    clear hI2 hall hk1 KE B0 HL hg1 HA HM
    have c0 := KE2.out.cell 0; have c1 := KE2.out.cell 1; have c2 := KE2.out.cell 2
    have lk := KE2.out.lt
    simp at c0 c1 c2
    go_wp2_with fail
    refine C2.out.mono ?_
    rintro e w2 ⟨rfl, rfl⟩
    go_wp2_with fail
    refine CM.out.mono ?_
    rintro e w3 ⟨rfl, b3⟩
    have B3 := Lib.hid (B2.out.trans (b3.mono B2.out.size))
    have KE3 := Lib.hid (KE2.out.below b3 KE2.out.lt)
    have KA3 := Lib.hid (KA2.out.below b3 KA2.out.lt)
    have H3 := Lib.hid (H.out.below B3.out)
    clear b3 B2 KE2 KA2 C2 CM c0 c1 c2 lk
    have CHa := Lib.hid (has_any H3.out.blk HI.out.bd a)
    have CHb := Lib.hid (has_any H3.out.blk HI.out.bd b)
    have e0 := KE3.out.cell 0; have e1 := KE3.out.cell 1; have e2 := KE3.out.cell 2
    have a1 := KA3.out.cell 1
    have le := KE3.out.lt; have la := KA3.out.lt
    simp at e0 e1 e2 a1
    by_cases hm1 : mayE a b c = false
    · have hm2 : ¬ ((1 ≤ a ∧ a ≤ 16) ∧ (1 ≤ b ∧ b ≤ 16) ∧ a ≠ b ∧ 1 ≤ c ∧ c ≤ 8) := by unfold mayE at hm1; simpa using hm1
      have EE := Lib.hid (show trustE ps ls a b c n = 1 ∧ trustL ps ls a b c n = ls from (by
          have k : trustE ps ls a b c n = 1 := by unfold trustE; rw [if_pos (by omega)]
          exact ⟨k, by unfold trustL; rw [k]; rfl⟩))
      rw [hm1]
      clear hm1 hm2
      go_wp2_with fail
      go_ret
      exact ⟨by rw [EE.out.1]; rfl, by rw [EE.out.2]; exact H3.out, Keep.of_below B3.out⟩
    have hm1 : mayE a b c = true := by simpa using hm1
    have hm2 : (1 ≤ a ∧ a ≤ 16) ∧ (1 ≤ b ∧ b ≤ 16) ∧ a ≠ b ∧ 1 ≤ c ∧ c ≤ 8 := by unfold mayE at hm1; simpa using hm1
    rw [hm1]
    clear hm1
    by_cases l1 : n < 0
    · have EE := Lib.hid (show trustE ps ls a b c n = 1 ∧ trustL ps ls a b c n = ls from (by
          have k : trustE ps ls a b c n = 1 := by unfold trustE; rw [if_pos (by omega)]
          exact ⟨k, by unfold trustL; rw [k]; rfl⟩))
      clear hm2
      go_wp2_with fail
      go_ret
      exact ⟨by rw [EE.out.1]; rfl, by rw [EE.out.2]; exact H3.out, Keep.of_below B3.out⟩
    by_cases l2 : 1099511627776 < n
    · have EE := Lib.hid (show trustE ps ls a b c n = 1 ∧ trustL ps ls a b c n = ls from (by
          have k : trustE ps ls a b c n = 1 := by unfold trustE; rw [if_pos (by omega)]
          exact ⟨k, by unfold trustL; rw [k]; rfl⟩))
      clear hm2
      go_wp2_with fail
      go_ret
      exact ⟨by rw [EE.out.1]; rfl, by rw [EE.out.2]; exact H3.out, Keep.of_below B3.out⟩
    by_cases pa : ¬ a ∈ ps
    · have EE := Lib.hid (show trustE ps ls a b c n = 7 ∧ trustL ps ls a b c n = ls from (by
          have k : trustE ps ls a b c n = 7 := by unfold trustE; rw [if_neg (by omega), if_pos (.inl pa)]
          exact ⟨k, by unfold trustL; rw [k]; rfl⟩))
      rw [decide_eq_false pa] at CHa
      clear hm2 pa
      go_wp2_with fail
      refine CHa.out.mono ?_
      rintro e w3 ⟨rfl, rfl⟩
      go_wp2_with fail
      go_ret
      exact ⟨by rw [EE.out.1]; rfl, by rw [EE.out.2]; exact H3.out, Keep.of_below B3.out⟩
    have pa := Decidable.not_not.1 pa
    by_cases pb : ¬ b ∈ ps
    · have EE := Lib.hid (show trustE ps ls a b c n = 7 ∧ trustL ps ls a b c n = ls from (by
          have k : trustE ps ls a b c n = 7 := by unfold trustE; rw [if_neg (by omega), if_pos (.inr pb)]
          exact ⟨k, by unfold trustL; rw [k]; rfl⟩))
      rw [decide_eq_true pa] at CHa
      rw [decide_eq_false pb] at CHb
      clear hm2 pa pb
      go_wp2_with fail
      refine CHa.out.mono ?_
      rintro e w3 ⟨rfl, rfl⟩
      go_wp2_with fail
      refine CHb.out.mono ?_
      rintro e w3 ⟨rfl, rfl⟩
      go_wp2_with fail
      go_ret
      exact ⟨by rw [EE.out.1]; rfl, by rw [EE.out.2]; exact H3.out, Keep.of_below B3.out⟩
    have pb := Decidable.not_not.1 pb
    rw [decide_eq_true pa] at CHa
    rw [decide_eq_true pb] at CHb
    have hlen := fun ty => H3.out.map.len ty
    have hk64 := HI.out.len
    obtain ⟨k, hk⟩ : ∃ k : Int, (ls.length : Int) = k := ⟨_, rfl⟩
    simp only [hk] at hlen
    by_cases l4 : n ≠ 0 ∧ k = 64
    · have EE := Lib.hid (show trustE ps ls a b c n = 9 ∧ trustL ps ls a b c n = ls from (by
          have k : trustE ps ls a b c n = 9 := by unfold trustE; rw [if_neg (by omega), if_neg (not_or.2 ⟨fun k => k pa, fun k => k pb⟩), lnAt_none hl, if_neg (by show ¬ n < 0; omega), if_pos ⟨hl, by omega, by omega⟩]
          exact ⟨k, by unfold trustL; rw [k]; rfl⟩))
      have q1 : (n != 0) = true := by simp; exact l4.1
      have q2 : (k == 64) = true := by simp; exact l4.2
      have hl2 := Nat.lt_of_lt_of_le H.out.blk.lt B3.out.size
      have d := H3.out.blk.ledMap
      clear hm2 pa pb hl l4 hk
      go_wp2_with fail
      refine CHa.out.mono ?_
      rintro e w3 ⟨rfl, rfl⟩
      go_wp2_with fail
      refine CHb.out.mono ?_
      rintro e w3 ⟨rfl, rfl⟩
      go_wp2_with fail
      go_ret
      exact ⟨by rw [EE.out.1]; rfl, by rw [EE.out.2]; exact H3.out, Keep.of_below B3.out⟩
    have q2 : (k == 64) = decide (k = 64) := rfl
    by_cases l5 : n = 0
    · subst l5
      have EE := Lib.hid (show trustE ps ls a b c 0 = 0 ∧ trustL ps ls a b c 0 = setL ls (⟨a, b, c, 0, 0⟩ : Ln) from (by
          have k : trustE ps ls a b c 0 = 0 := by unfold trustE; rw [if_neg (by omega), if_neg (not_or.2 ⟨fun k => k pa, fun k => k pb⟩), lnAt_none hl, if_neg (by show ¬ (0 : Int) < 0; omega), if_neg (by omega)]
          exact ⟨k, by unfold trustL; rw [if_pos k, lnAt_none hl]; rfl⟩))
      have hf : (⟨a, b, c, 0, 0⟩ : Ln).Fits := fits_mk (by omega) (by omega) (by omega) (by omega) (by omega)
      have hl2 := Nat.lt_of_lt_of_le H.out.blk.lt B3.out.size
      have d := H3.out.blk.ledMap
      clear hm2 pa pb hl l1 l2 l4 hk hk64 q2
      go_wp2_with fail
      refine CHa.out.mono ?_
      rintro e w3 ⟨rfl, rfl⟩
      go_wp2_with fail
      refine CHb.out.mono ?_
      rintro e w3 ⟨rfl, rfl⟩
      go_wp2_with fail
      refine region_end (by kernel_rfl) 5 12 [(.pointer (some ⟨G, 0, none⟩)), (.pointer (some ⟨G, 0, none⟩)), (.pointer (some ⟨G, 17, none⟩)), (.map (some M)), (.agg #[.int .u8 a, .int .u8 b, .int .u8 c]), undef]
        (fun w' => Below w3.heap.size w3 w') (by kernel_rfl) rfl (by kernel_rfl) (Below.refl _ _).drew ?_
      intro af haf
      simp only [List.toList_toArray, puts, Act.put, List.getD_cons_zero, List.getD_cons_succ, List.setIfInBounds_toArray, List.set_cons_succ, List.set_cons_zero] at haf
      subst haf
      refine ⟨?_, ?_⟩
      · simp only [List.toList_toArray, List.take_succ_cons, List.take_zero, EachTo]
        refine ⟨?_, ?_, ?_, ?_, ?_, trivial⟩
        · intro w' hS
          refine OpTo.plain ?_ ?_
          exact rfl
          have HS := Lib.hid hS
          clear hS
          go_wp2_with fail
          all_goals first | exact HS.out | exact ⟨rfl, HS.out⟩ | rfl
        · intro w' hS
          refine OpTo.plain ?_ ?_
          exact rfl
          have hl := Nat.lt_of_lt_of_le H3.out.blk.lt hS.size
          have d := (H3.out.blk.below hS H3.out.blk.lt).ledMap
          have HS := Lib.hid hS
          clear hS
          go_wp2_with fail
          all_goals first | exact HS.out | exact ⟨rfl, HS.out⟩ | rfl
        · intro w' hS
          refine OpTo.plain ?_ ?_
          exact rfl
          have hl := Nat.lt_of_lt_of_le H3.out.blk.lt hS.size
          have d := (H3.out.blk.below hS H3.out.blk.lt).ledMap
          have HS := Lib.hid hS
          clear hS
          go_wp2_with fail
          all_goals first | exact HS.out | exact ⟨rfl, HS.out⟩ | rfl
        · intro w' hS
          refine OpTo.plain ?_ ?_
          exact rfl
          have hl := Nat.lt_of_lt_of_le H3.out.blk.lt hS.size
          have d := (H3.out.blk.below hS H3.out.blk.lt).ledMap
          have HS := Lib.hid hS
          clear hS
          go_wp2_with fail
          all_goals first | exact HS.out | exact ⟨rfl, HS.out⟩ | rfl
        · intro w' hS
          refine OpTo.plain ?_ ?_
          exact rfl
          have hl0 := Nat.lt_of_lt_of_le KE3.out.lt hS.size
          have d0_0 := (KE3.out.below hS KE3.out.lt).cell 0
          have d0_1 := (KE3.out.below hS KE3.out.lt).cell 1
          have d0_2 := (KE3.out.below hS KE3.out.lt).cell 2
          simp at d0_0 d0_1 d0_2
          have HS := Lib.hid hS
          clear hS
          go_wp2_with fail
          all_goals first | exact HS.out | exact ⟨rfl, HS.out⟩ | rfl
      simp only [List.getD_cons_succ, List.getD_cons_zero]
      intro w' hS
      with_reducible refine OpTo.plain ?_ ?_
      exact rfl
      obtain ⟨w4, hr, hm4, ht4⟩ := (H3.out.map.below hS H3.out.map.lt).drop HI.out.inv _ (x := (⟨a, b, c, 0, 0⟩ : Ln)) hf rfl
      refine wp_delete_of (.tmp 87) (.tmp 88) 83 86 rfl rfl rfl hr ⟨rfl, ?_⟩
      have HE := Lib.hid (show LedM w4 G M ps (setL ls (⟨a, b, c, 0, 0⟩ : Ln)) ∧ Keep (· = M) w w4 from by
        have hk4 := ht4.keep
        exact ⟨⟨((H3.out.blk.below hS H3.out.blk.lt)).keep hk4 (fun e => H.out.ne e.symm), hm4⟩, (Keep.of_below (B3.out.trans (hS.mono B3.out.size))).trans hk4⟩)
      clear hr hm4 ht4 hS
      go_wp2_with fail
      go_ret
      exact ⟨by rw [EE.out.1]; rfl, by rw [EE.out.2]; exact HE.out.1, HE.out.2⟩
    · have EE := Lib.hid (show trustE ps ls a b c n = 0 ∧ trustL ps ls a b c n = setL ls (⟨a, b, c, n, 0⟩ : Ln) from (by
          have k : trustE ps ls a b c n = 0 := by unfold trustE; rw [if_neg (by omega), if_neg (not_or.2 ⟨fun k => k pa, fun k => k pb⟩), lnAt_none hl, if_neg (by show ¬ n < 0; omega), if_neg (by omega)]
          exact ⟨k, by unfold trustL; rw [if_pos k, lnAt_none hl]; rfl⟩))
      have hf : (⟨a, b, c, n, 0⟩ : Ln).Fits := fits_mk (by omega) (by omega) (by omega) (by omega) (by omega)
      have q1 : (n != 0) = true := by simp; exact l5
      have q3 : (k == 64) = false := by simp; intro e; exact l4 ⟨l5, e⟩
      clear q2
      have q5 : (n == 0) = false := by simp; exact l5
      have hl2 := Nat.lt_of_lt_of_le H.out.blk.lt B3.out.size
      have d := H3.out.blk.ledMap
      have l6 := Lib.hid l5
      clear hm2 pa pb hl l5 l4 hk hk64
      go_wp2_with fail
      refine CHa.out.mono ?_
      rintro e w3 ⟨rfl, rfl⟩
      go_wp2_with fail
      refine CHb.out.mono ?_
      rintro e w3 ⟨rfl, rfl⟩
      go_wp2_with fail
      refine region_end (by kernel_rfl) 9 12 [(.pointer (some ⟨G, 0, none⟩)), (.pointer (some ⟨G, 0, none⟩)), (.pointer (some ⟨G, 17, none⟩)), (.map (some M)), (.agg #[.int .u8 a, .int .u8 b, .int .u8 c]), (.int .i64 n), (.pointer (some ⟨ga, 1, none⟩)), (.int .i64 0), (.agg #[.int .i64 n, .int .i64 0]), undef]
        (fun w' => Below w3.heap.size w3 w') (by kernel_rfl) rfl (by kernel_rfl) (Below.refl _ _).drew ?_
      intro af haf
      simp only [List.toList_toArray, puts, Act.put, List.getD_cons_zero, List.getD_cons_succ, List.setIfInBounds_toArray, List.set_cons_succ, List.set_cons_zero] at haf
      subst haf
      refine ⟨?_, ?_⟩
      · simp only [List.toList_toArray, List.take_succ_cons, List.take_zero, EachTo]
        refine ⟨?_, ?_, ?_, ?_, ?_, ?_, ?_, ?_, ?_, trivial⟩
        · intro w' hS
          refine OpTo.plain ?_ ?_
          exact rfl
          have HS := Lib.hid hS
          clear hS
          go_wp2_with fail
          all_goals first | exact HS.out | exact ⟨rfl, HS.out⟩ | rfl
        · intro w' hS
          refine OpTo.plain ?_ ?_
          exact rfl
          have hl := Nat.lt_of_lt_of_le H3.out.blk.lt hS.size
          have d := (H3.out.blk.below hS H3.out.blk.lt).ledMap
          have HS := Lib.hid hS
          clear hS
          go_wp2_with fail
          all_goals first | exact HS.out | exact ⟨rfl, HS.out⟩ | rfl
        · intro w' hS
          refine OpTo.plain ?_ ?_
          exact rfl
          have hl := Nat.lt_of_lt_of_le H3.out.blk.lt hS.size
          have d := (H3.out.blk.below hS H3.out.blk.lt).ledMap
          have HS := Lib.hid hS
          clear hS
          go_wp2_with fail
          all_goals first | exact HS.out | exact ⟨rfl, HS.out⟩ | rfl
        · intro w' hS
          refine OpTo.plain ?_ ?_
          exact rfl
          have hl := Nat.lt_of_lt_of_le H3.out.blk.lt hS.size
          have d := (H3.out.blk.below hS H3.out.blk.lt).ledMap
          have HS := Lib.hid hS
          clear hS
          go_wp2_with fail
          all_goals first | exact HS.out | exact ⟨rfl, HS.out⟩ | rfl
        · intro w' hS
          refine OpTo.plain ?_ ?_
          exact rfl
          have hl0 := Nat.lt_of_lt_of_le KE3.out.lt hS.size
          have d0_0 := (KE3.out.below hS KE3.out.lt).cell 0
          have d0_1 := (KE3.out.below hS KE3.out.lt).cell 1
          have d0_2 := (KE3.out.below hS KE3.out.lt).cell 2
          simp at d0_0 d0_1 d0_2
          have HS := Lib.hid hS
          clear hS
          go_wp2_with fail
          all_goals first | exact HS.out | exact ⟨rfl, HS.out⟩ | rfl
        · intro w' hS
          refine OpTo.plain ?_ ?_
          exact rfl
          have HS := Lib.hid hS
          clear hS
          go_wp2_with fail
          all_goals first | exact HS.out | exact ⟨rfl, HS.out⟩ | rfl
        · intro w' hS
          refine OpTo.plain ?_ ?_
          exact rfl
          have hl0 := Nat.lt_of_lt_of_le KA3.out.lt hS.size
          have d0_0 := (KA3.out.below hS KA3.out.lt).cell 0
          have d0_1 := (KA3.out.below hS KA3.out.lt).cell 1
          simp at d0_0 d0_1
          have HS := Lib.hid hS
          clear hS
          go_wp2_with fail
          all_goals first | exact HS.out | exact ⟨rfl, HS.out⟩ | rfl
        · intro w' hS
          refine OpTo.plain ?_ ?_
          exact rfl
          have hl0 := Nat.lt_of_lt_of_le KA3.out.lt hS.size
          have d0_0 := (KA3.out.below hS KA3.out.lt).cell 0
          have d0_1 := (KA3.out.below hS KA3.out.lt).cell 1
          simp at d0_0 d0_1
          have HS := Lib.hid hS
          clear hS
          go_wp2_with fail
          all_goals first | exact HS.out | exact ⟨rfl, HS.out⟩ | rfl
        · intro w' hS
          refine OpTo.plain ?_ ?_
          exact rfl
          have HS := Lib.hid hS
          clear hS
          go_wp2_with fail
          all_goals first | exact HS.out | exact ⟨rfl, HS.out⟩ | rfl
      simp only [List.getD_cons_succ, List.getD_cons_zero]
      intro w' hS
      with_reducible refine OpTo.plain ?_ ?_
      exact rfl
      obtain ⟨w4, hr, hm4, ht4⟩ := (H3.out.map.below hS H3.out.map.lt).store HI.out.inv (x := (⟨a, b, c, n, 0⟩ : Ln)) hf l6.out
      refine wp_mapUpdate_of 83 (.tmp 28) (.tmp 29) (.tmp 33) rfl rfl rfl rfl hr ⟨rfl, ?_⟩
      have HE := Lib.hid (show LedM w4 G M ps (setL ls (⟨a, b, c, n, 0⟩ : Ln)) ∧ Keep (· = M) w w4 from by
        have hk4 := ht4.keep
        exact ⟨⟨((H3.out.blk.below hS H3.out.blk.lt)).keep hk4 (fun e => H.out.ne e.symm), hm4⟩, (Keep.of_below (B3.out.trans (hS.mono B3.out.size))).trans hk4⟩)
      clear hr hm4 ht4 hS
      go_wp2_with fail
      go_ret
      exact ⟨by rw [EE.out.1]; rfl, by rw [EE.out.2]; exact HE.out.1, HE.out.2⟩
  · rw [lnAt_some hl, hs] at HL
    obtain ⟨hm, rfl, rfl, rfl⟩ := lineL_mem hl
    have hd := (hI.inv.good x hm).db
    have hli := (hI.inv.good x hm).li
    clear hs h ha hb hc hI hm
    go_enter Try.func38, Try.ntmps38
    go_wp2_with fail
    have B0 := Lib.hid ((Below.refl w.heap.size w).alloc (Nat.le_refl _) (.cells #[.int .u8 x.cr, .int .u8 x.de, .int .u8 x.cu] 86))
    have KE := Lib.hid (Blk.new w #[.int .u8 x.cr, .int .u8 x.de, .int .u8 x.cu] 86)
    generalize (w.alloc (.cells #[.int .u8 x.cr, .int .u8 x.de, .int .u8 x.cu] 86)) = W at B0 KE ⊢
    refine region_ghost (by kernel_rfl) (fun g : Nat → Nat => [(.pointer (some ⟨G, 0, none⟩)), (.map (some M)), (.agg #[.int .u8 x.cr, .int .u8 x.de, .int .u8 x.cu]), (.tuple #[.agg #[.int .i64 x.li, .int .i64 x.db], .bool true]), (.tuple #[.agg #[.int .i64 x.li, .int .i64 x.db], .bool true]), (.agg #[.int .i64 x.li, .int .i64 x.db]), (.bool true), (.pointer (some ⟨g 7, 0, none⟩)), undef, (.bool true)])
      (Lays W [(⟨7, 8, (.cells #[.int .i64 0, .int .i64 0] 82), (.cells #[.int .i64 x.li, .int .i64 x.db] 82)⟩ : Spec)]) (by kernel_rfl) (fun _ => 0) (Lays.start _ _ _) ?_
    intro AF hAF
    simp only [List.toList_toArray, puts, Act.put, List.getD_cons_zero, List.getD_cons_succ, List.setIfInBounds_toArray, List.set_cons_succ, List.set_cons_zero] at hAF
    have hAF2 : _ = AF := funext hAF
    subst hAF2
    clear hAF
    refine ⟨?_, ?_⟩
    · simp only [List.toList_toArray, EachG]
      refine ⟨?_, ?_, ?_, ?_, ?_, ?_, ?_, ?_, ?_, ?_, trivial⟩
      · intro g D w' hD hW hC hI
        refine ⟨g, fun _ _ _ => rfl, ?_⟩
        with_reducible refine OpTo.plain ?_ ?_
        exact rfl
        have hS := hI.below
        have HS := Lib.hid (hI.step (Below.refl _ _) (k := 0) (by rfl))
        clear hI hS hC hW hD
        go_wp2_with fail
        all_goals first | exact HS.out | exact ⟨rfl, HS.out⟩ | rfl
      · intro g D w' hD hW hC hI
        refine ⟨g, fun _ _ _ => rfl, ?_⟩
        with_reducible refine OpTo.plain ?_ ?_
        exact rfl
        have hS := hI.below
        have HI := Lib.hid hI
        have HC := Lib.hid (HA.out w' (B0.out.trans (hS.mono B0.out.size)))
        clear hI hS hC hW hD
        go_wp2_with fail
        refine HC.out.mono ?_
        rintro e w'' ⟨rfl, rfl⟩
        exact ⟨rfl, HI.out.step (Below.refl _ _) (by rfl)⟩
      · intro g D w' hD hW hC hI
        refine ⟨g, fun _ _ _ => rfl, ?_⟩
        with_reducible refine OpTo.plain ?_ ?_
        exact rfl
        have hS := hI.below
        have hl0 := Nat.lt_of_lt_of_le KE.out.lt hS.size
        have d0_0 := (KE.out.below hS KE.out.lt).cell 0
        have d0_1 := (KE.out.below hS KE.out.lt).cell 1
        have d0_2 := (KE.out.below hS KE.out.lt).cell 2
        simp at d0_0 d0_1 d0_2
        have HS := Lib.hid (hI.step (Below.refl _ _) (k := 2) (by rfl))
        clear hI hS hC hW hD
        go_wp2_with fail
        all_goals first | exact HS.out | exact ⟨rfl, HS.out⟩ | rfl
      · intro g D w' hD hW hC hI
        refine ⟨g, fun _ _ _ => rfl, ?_⟩
        with_reducible refine OpTo.plain ?_ ?_
        exact rfl
        have hS := hI.below
        have q := HL.out w' (B0.out.trans (hS.mono B0.out.size))
        have HS := Lib.hid (hI.step (Below.refl _ _) (k := 3) (by rfl))
        clear hI hS hC hW hD
        go_wp2_with fail
        all_goals first | exact HS.out | exact ⟨rfl, HS.out⟩ | rfl
      · intro g D w' hD hW hC hI
        refine ⟨g, fun _ _ _ => rfl, ?_⟩
        with_reducible refine OpTo.plain ?_ ?_
        exact rfl
        have hS := hI.below
        have HS := Lib.hid (hI.step (Below.refl _ _) (k := 4) (by rfl))
        clear hI hS hC hW hD
        go_wp2_with fail
        all_goals first | exact HS.out | exact ⟨rfl, HS.out⟩ | rfl
      · intro g D w' hD hW hC hI
        refine ⟨g, fun _ _ _ => rfl, ?_⟩
        with_reducible refine OpTo.plain ?_ ?_
        exact rfl
        have hS := hI.below
        have HS := Lib.hid (hI.step (Below.refl _ _) (k := 5) (by rfl))
        clear hI hS hC hW hD
        go_wp2_with fail
        all_goals first | exact HS.out | exact ⟨rfl, HS.out⟩ | rfl
      · intro g D w' hD hW hC hI
        refine ⟨g, fun _ _ _ => rfl, ?_⟩
        with_reducible refine OpTo.plain ?_ ?_
        exact rfl
        have hS := hI.below
        have HS := Lib.hid (hI.step (Below.refl _ _) (k := 6) (by rfl))
        clear hI hS hC hW hD
        go_wp2_with fail
        all_goals first | exact HS.out | exact ⟨rfl, HS.out⟩ | rfl
      · intro g D w' hD hW hC hI
        have hN : D 8 = false := waits_not hC hD 12 8 (by kernel_rfl)
        refine ⟨upd g 7 w'.heap.size, vals_upd _ (fun g : Nat → Nat => [(.pointer (some ⟨G, 0, none⟩)), (.map (some M)), (.agg #[.int .u8 x.cr, .int .u8 x.de, .int .u8 x.cu]), (.tuple #[.agg #[.int .i64 x.li, .int .i64 x.db], .bool true]), (.tuple #[.agg #[.int .i64 x.li, .int .i64 x.db], .bool true]), (.agg #[.int .i64 x.li, .int .i64 x.db]), (.bool true), (.pointer (some ⟨g 7, 0, none⟩)), undef, (.bool true)]) g 7 _ 12 hC hD ?_, ?_⟩
        · intro j hj
          match j, hj with
          | 0, _ => exact .inr rfl
          | 1, _ => exact .inr rfl
          | 2, _ => exact .inr rfl
          | 3, _ => exact .inr rfl
          | 4, _ => exact .inr rfl
          | 5, _ => exact .inr rfl
          | 6, _ => exact .inr rfl
          | 7, _ => exact .inl (.inl rfl)
          | 8, _ => exact .inr rfl
          | 9, _ => exact .inr rfl
          | j + 10, _ => exact .inr rfl
        with_reducible refine OpTo.plain ?_ ?_
        exact rfl
        have HS := Lib.hid (hI.lay (⟨7, 8, (.cells #[.int .i64 0, .int .i64 0] 82), (.cells #[.int .i64 x.li, .int .i64 x.db] 82)⟩ : Spec) (by simp) (by rfl) (.inr hN) (by rfl) (fun s' hs' _ => List.mem_singleton.1 hs') (.cells #[.int .i64 0, .int .i64 0] 82) rfl)
        clear hI hC hW hD hN
        go_wp2_with fail
        all_goals first | exact HS.out | exact ⟨rfl, HS.out⟩ | rfl
      · intro g D w' hD hW hC hI
        have hP : D 7 = true := waited_done hC hW (d := 12) (by kernel_rfl)
        obtain ⟨hg, hk⟩ := hI.zeroed (⟨7, 8, (.cells #[.int .i64 0, .int .i64 0] 82), (.cells #[.int .i64 x.li, .int .i64 x.db] 82)⟩ : Spec) (by simp) hP hD
        refine ⟨g, fun _ _ _ => rfl, ?_⟩
        with_reducible refine OpTo.plain ?_ ?_
        exact rfl
        refine wp_store_row 82 (.tmp 12) (.tmp 23) rfl (g 7) #[.int .i64 x.li, .int .i64 x.db] rfl rfl 82 _ hk (by kernel_rfl) rfl (by simp [Value.oneCell']) ⟨rfl, ?_⟩
        exact hI.fill (⟨7, 8, (.cells #[.int .i64 0, .int .i64 0] 82), (.cells #[.int .i64 x.li, .int .i64 x.db] 82)⟩ : Spec) (by simp) (by rfl) (show (8 : Nat) ≠ 7 by decide) (fun s' hs' _ => List.mem_singleton.1 hs') hP (below_keepRow _ _) (setRow_heap w' (g 7) _ _ 82 (0, 0) hk)
      · intro g D w' hD hW hC hI
        refine ⟨g, fun _ _ _ => rfl, ?_⟩
        with_reducible refine OpTo.plain ?_ ?_
        exact rfl
        have hS := hI.below
        have HS := Lib.hid (hI.step (Below.refl _ _) (k := 9) (by rfl))
        clear hI hS hC hW hD
        go_wp2_with fail
        all_goals first | exact HS.out | exact ⟨rfl, HS.out⟩ | rfl
    intro g1 D w2 hall hI2
    obtain ⟨hg1, hk1⟩ := hI2.full (⟨7, 8, (.cells #[.int .i64 0, .int .i64 0] 82), (.cells #[.int .i64 x.li, .int .i64 x.db] 82)⟩ : Spec) (by simp) (hall 7 (by decide)) (hall 8 (by decide))
    have B2 := Lib.hid (B0.out.trans (hI2.below.mono B0.out.size))
    have KE2 := Lib.hid (KE.out.below hI2.below KE.out.lt)
    have KA2 : Hid (Blk w2 (g1 7) #[.int .i64 x.li, .int .i64 x.db] 82) := Lib.hid hk1
    have C2 := Lib.hid (HM.out w2 B2.out)
    have CM := Lib.hid (may_any x.cr x.de x.cu w2)
    dsimp only
    generalize g1 7 = ga at *
    clear hI2 hall hk1 KE B0 HL hg1 HA HM
    have c0 := KE2.out.cell 0; have c1 := KE2.out.cell 1; have c2 := KE2.out.cell 2
    have lk := KE2.out.lt
    simp at c0 c1 c2
    go_wp2_with fail
    refine C2.out.mono ?_
    rintro e w2 ⟨rfl, rfl⟩
    go_wp2_with fail
    refine CM.out.mono ?_
    rintro e w3 ⟨rfl, b3⟩
    have B3 := Lib.hid (B2.out.trans (b3.mono B2.out.size))
    have KE3 := Lib.hid (KE2.out.below b3 KE2.out.lt)
    have KA3 := Lib.hid (KA2.out.below b3 KA2.out.lt)
    have H3 := Lib.hid (H.out.below B3.out)
    clear b3 B2 KE2 KA2 C2 CM c0 c1 c2 lk
    have CHa := Lib.hid (has_any H3.out.blk HI.out.bd x.cr)
    have CHb := Lib.hid (has_any H3.out.blk HI.out.bd x.de)
    have e0 := KE3.out.cell 0; have e1 := KE3.out.cell 1; have e2 := KE3.out.cell 2
    have a1 := KA3.out.cell 1
    have le := KE3.out.lt; have la := KA3.out.lt
    simp at e0 e1 e2 a1
    by_cases hm1 : mayE x.cr x.de x.cu = false
    · have hm2 : ¬ ((1 ≤ x.cr ∧ x.cr ≤ 16) ∧ (1 ≤ x.de ∧ x.de ≤ 16) ∧ x.cr ≠ x.de ∧ 1 ≤ x.cu ∧ x.cu ≤ 8) := by unfold mayE at hm1; simpa using hm1
      have EE := Lib.hid (show trustE ps ls x.cr x.de x.cu n = 1 ∧ trustL ps ls x.cr x.de x.cu n = ls from (by
          have k : trustE ps ls x.cr x.de x.cu n = 1 := by unfold trustE; rw [if_pos (by omega)]
          exact ⟨k, by unfold trustL; rw [k]; rfl⟩))
      rw [hm1]
      clear hm1 hm2
      go_wp2_with fail
      go_ret
      exact ⟨by rw [EE.out.1]; rfl, by rw [EE.out.2]; exact H3.out, Keep.of_below B3.out⟩
    have hm1 : mayE x.cr x.de x.cu = true := by simpa using hm1
    have hm2 : (1 ≤ x.cr ∧ x.cr ≤ 16) ∧ (1 ≤ x.de ∧ x.de ≤ 16) ∧ x.cr ≠ x.de ∧ 1 ≤ x.cu ∧ x.cu ≤ 8 := by unfold mayE at hm1; simpa using hm1
    rw [hm1]
    clear hm1
    by_cases l1 : n < 0
    · have EE := Lib.hid (show trustE ps ls x.cr x.de x.cu n = 1 ∧ trustL ps ls x.cr x.de x.cu n = ls from (by
          have k : trustE ps ls x.cr x.de x.cu n = 1 := by unfold trustE; rw [if_pos (by omega)]
          exact ⟨k, by unfold trustL; rw [k]; rfl⟩))
      clear hm2
      go_wp2_with fail
      go_ret
      exact ⟨by rw [EE.out.1]; rfl, by rw [EE.out.2]; exact H3.out, Keep.of_below B3.out⟩
    by_cases l2 : 1099511627776 < n
    · have EE := Lib.hid (show trustE ps ls x.cr x.de x.cu n = 1 ∧ trustL ps ls x.cr x.de x.cu n = ls from (by
          have k : trustE ps ls x.cr x.de x.cu n = 1 := by unfold trustE; rw [if_pos (by omega)]
          exact ⟨k, by unfold trustL; rw [k]; rfl⟩))
      clear hm2
      go_wp2_with fail
      go_ret
      exact ⟨by rw [EE.out.1]; rfl, by rw [EE.out.2]; exact H3.out, Keep.of_below B3.out⟩
    by_cases pa : ¬ x.cr ∈ ps
    · have EE := Lib.hid (show trustE ps ls x.cr x.de x.cu n = 7 ∧ trustL ps ls x.cr x.de x.cu n = ls from (by
          have k : trustE ps ls x.cr x.de x.cu n = 7 := by unfold trustE; rw [if_neg (by omega), if_pos (.inl pa)]
          exact ⟨k, by unfold trustL; rw [k]; rfl⟩))
      rw [decide_eq_false pa] at CHa
      clear hm2 pa
      go_wp2_with fail
      refine CHa.out.mono ?_
      rintro e w3 ⟨rfl, rfl⟩
      go_wp2_with fail
      go_ret
      exact ⟨by rw [EE.out.1]; rfl, by rw [EE.out.2]; exact H3.out, Keep.of_below B3.out⟩
    have pa := Decidable.not_not.1 pa
    by_cases pb : ¬ x.de ∈ ps
    · have EE := Lib.hid (show trustE ps ls x.cr x.de x.cu n = 7 ∧ trustL ps ls x.cr x.de x.cu n = ls from (by
          have k : trustE ps ls x.cr x.de x.cu n = 7 := by unfold trustE; rw [if_neg (by omega), if_pos (.inr pb)]
          exact ⟨k, by unfold trustL; rw [k]; rfl⟩))
      rw [decide_eq_true pa] at CHa
      rw [decide_eq_false pb] at CHb
      clear hm2 pa pb
      go_wp2_with fail
      refine CHa.out.mono ?_
      rintro e w3 ⟨rfl, rfl⟩
      go_wp2_with fail
      refine CHb.out.mono ?_
      rintro e w3 ⟨rfl, rfl⟩
      go_wp2_with fail
      go_ret
      exact ⟨by rw [EE.out.1]; rfl, by rw [EE.out.2]; exact H3.out, Keep.of_below B3.out⟩
    have pb := Decidable.not_not.1 pb
    rw [decide_eq_true pa] at CHa
    rw [decide_eq_true pb] at CHb
    by_cases l3 : n < x.db
    · have EE := Lib.hid (show trustE ps ls x.cr x.de x.cu n = 14 ∧ trustL ps ls x.cr x.de x.cu n = ls from (by
          have k : trustE ps ls x.cr x.de x.cu n = 14 := by unfold trustE; rw [if_neg (by omega), if_neg (not_or.2 ⟨fun k => k pa, fun k => k pb⟩), lnAt_some hl, if_pos l3]
          exact ⟨k, by unfold trustL; rw [k]; rfl⟩))
      clear hm2 pa pb hl
      go_wp2_with fail
      refine CHa.out.mono ?_
      rintro e w3 ⟨rfl, rfl⟩
      go_wp2_with fail
      refine CHb.out.mono ?_
      rintro e w3 ⟨rfl, rfl⟩
      go_wp2_with fail
      go_ret
      exact ⟨by rw [EE.out.1]; rfl, by rw [EE.out.2]; exact H3.out, Keep.of_below B3.out⟩
    by_cases l5 : n = 0
    · subst l5
      have EE := Lib.hid (show trustE ps ls x.cr x.de x.cu 0 = 0 ∧ trustL ps ls x.cr x.de x.cu 0 = setL ls (⟨x.cr, x.de, x.cu, 0, x.db⟩ : Ln) from (by
          have k : trustE ps ls x.cr x.de x.cu 0 = 0 := by unfold trustE; rw [if_neg (by omega), if_neg (not_or.2 ⟨fun k => k pa, fun k => k pb⟩), lnAt_some hl, if_neg l3, if_neg (by intro k; rw [hl] at k; cases k.1)]
          exact ⟨k, by unfold trustL; rw [if_pos k, lnAt_some hl]⟩))
      have hf : (⟨x.cr, x.de, x.cu, 0, x.db⟩ : Ln).Fits := fits_mk (by omega) (by omega) (by omega) (by omega) (by omega)
      have hl2 := Nat.lt_of_lt_of_le H.out.blk.lt B3.out.size
      have d := H3.out.blk.ledMap
      clear hm2 pa pb hl l1 l2
      go_wp2_with fail
      refine CHa.out.mono ?_
      rintro e w3 ⟨rfl, rfl⟩
      go_wp2_with fail
      refine CHb.out.mono ?_
      rintro e w3 ⟨rfl, rfl⟩
      go_wp2_with fail
      refine region_end (by kernel_rfl) 5 12 [(.pointer (some ⟨G, 0, none⟩)), (.pointer (some ⟨G, 0, none⟩)), (.pointer (some ⟨G, 17, none⟩)), (.map (some M)), (.agg #[.int .u8 x.cr, .int .u8 x.de, .int .u8 x.cu]), undef]
        (fun w' => Below w3.heap.size w3 w') (by kernel_rfl) rfl (by kernel_rfl) (Below.refl _ _).drew ?_
      intro af haf
      simp only [List.toList_toArray, puts, Act.put, List.getD_cons_zero, List.getD_cons_succ, List.setIfInBounds_toArray, List.set_cons_succ, List.set_cons_zero] at haf
      subst haf
      refine ⟨?_, ?_⟩
      · simp only [List.toList_toArray, List.take_succ_cons, List.take_zero, EachTo]
        refine ⟨?_, ?_, ?_, ?_, ?_, trivial⟩
        · intro w' hS
          refine OpTo.plain ?_ ?_
          exact rfl
          have HS := Lib.hid hS
          clear hS
          go_wp2_with fail
          all_goals first | exact HS.out | exact ⟨rfl, HS.out⟩ | rfl
        · intro w' hS
          refine OpTo.plain ?_ ?_
          exact rfl
          have hl := Nat.lt_of_lt_of_le H3.out.blk.lt hS.size
          have d := (H3.out.blk.below hS H3.out.blk.lt).ledMap
          have HS := Lib.hid hS
          clear hS
          go_wp2_with fail
          all_goals first | exact HS.out | exact ⟨rfl, HS.out⟩ | rfl
        · intro w' hS
          refine OpTo.plain ?_ ?_
          exact rfl
          have hl := Nat.lt_of_lt_of_le H3.out.blk.lt hS.size
          have d := (H3.out.blk.below hS H3.out.blk.lt).ledMap
          have HS := Lib.hid hS
          clear hS
          go_wp2_with fail
          all_goals first | exact HS.out | exact ⟨rfl, HS.out⟩ | rfl
        · intro w' hS
          refine OpTo.plain ?_ ?_
          exact rfl
          have hl := Nat.lt_of_lt_of_le H3.out.blk.lt hS.size
          have d := (H3.out.blk.below hS H3.out.blk.lt).ledMap
          have HS := Lib.hid hS
          clear hS
          go_wp2_with fail
          all_goals first | exact HS.out | exact ⟨rfl, HS.out⟩ | rfl
        · intro w' hS
          refine OpTo.plain ?_ ?_
          exact rfl
          have hl0 := Nat.lt_of_lt_of_le KE3.out.lt hS.size
          have d0_0 := (KE3.out.below hS KE3.out.lt).cell 0
          have d0_1 := (KE3.out.below hS KE3.out.lt).cell 1
          have d0_2 := (KE3.out.below hS KE3.out.lt).cell 2
          simp at d0_0 d0_1 d0_2
          have HS := Lib.hid hS
          clear hS
          go_wp2_with fail
          all_goals first | exact HS.out | exact ⟨rfl, HS.out⟩ | rfl
      simp only [List.getD_cons_succ, List.getD_cons_zero]
      intro w' hS
      with_reducible refine OpTo.plain ?_ ?_
      exact rfl
      obtain ⟨w4, hr, hm4, ht4⟩ := (H3.out.map.below hS H3.out.map.lt).drop HI.out.inv _ (x := (⟨x.cr, x.de, x.cu, 0, x.db⟩ : Ln)) hf rfl
      refine wp_delete_of (.tmp 87) (.tmp 88) 83 86 rfl rfl rfl hr ⟨rfl, ?_⟩
      have HE := Lib.hid (show LedM w4 G M ps (setL ls (⟨x.cr, x.de, x.cu, 0, x.db⟩ : Ln)) ∧ Keep (· = M) w w4 from by
        have hk4 := ht4.keep
        exact ⟨⟨((H3.out.blk.below hS H3.out.blk.lt)).keep hk4 (fun e => H.out.ne e.symm), hm4⟩, (Keep.of_below (B3.out.trans (hS.mono B3.out.size))).trans hk4⟩)
      clear hr hm4 ht4 hS
      go_wp2_with fail
      go_ret
      exact ⟨by rw [EE.out.1]; rfl, by rw [EE.out.2]; exact HE.out.1, HE.out.2⟩
    · have EE := Lib.hid (show trustE ps ls x.cr x.de x.cu n = 0 ∧ trustL ps ls x.cr x.de x.cu n = setL ls (⟨x.cr, x.de, x.cu, n, x.db⟩ : Ln) from (by
          have k : trustE ps ls x.cr x.de x.cu n = 0 := by unfold trustE; rw [if_neg (by omega), if_neg (not_or.2 ⟨fun k => k pa, fun k => k pb⟩), lnAt_some hl, if_neg l3, if_neg (by intro k; rw [hl] at k; cases k.1)]
          exact ⟨k, by unfold trustL; rw [if_pos k, lnAt_some hl]⟩))
      have hf : (⟨x.cr, x.de, x.cu, n, x.db⟩ : Ln).Fits := fits_mk (by omega) (by omega) (by omega) (by omega) (by omega)
      have q5 : (n == 0) = false := by simp; exact l5
      have hl2 := Nat.lt_of_lt_of_le H.out.blk.lt B3.out.size
      have d := H3.out.blk.ledMap
      have l6 := Lib.hid l5
      clear hm2 pa pb hl l5
      go_wp2_with fail
      refine CHa.out.mono ?_
      rintro e w3 ⟨rfl, rfl⟩
      go_wp2_with fail
      refine CHb.out.mono ?_
      rintro e w3 ⟨rfl, rfl⟩
      go_wp2_with fail
      refine region_end (by kernel_rfl) 9 12 [(.pointer (some ⟨G, 0, none⟩)), (.pointer (some ⟨G, 0, none⟩)), (.pointer (some ⟨G, 17, none⟩)), (.map (some M)), (.agg #[.int .u8 x.cr, .int .u8 x.de, .int .u8 x.cu]), (.int .i64 n), (.pointer (some ⟨ga, 1, none⟩)), (.int .i64 x.db), (.agg #[.int .i64 n, .int .i64 x.db]), undef]
        (fun w' => Below w3.heap.size w3 w') (by kernel_rfl) rfl (by kernel_rfl) (Below.refl _ _).drew ?_
      intro af haf
      simp only [List.toList_toArray, puts, Act.put, List.getD_cons_zero, List.getD_cons_succ, List.setIfInBounds_toArray, List.set_cons_succ, List.set_cons_zero] at haf
      subst haf
      refine ⟨?_, ?_⟩
      · simp only [List.toList_toArray, List.take_succ_cons, List.take_zero, EachTo]
        refine ⟨?_, ?_, ?_, ?_, ?_, ?_, ?_, ?_, ?_, trivial⟩
        · intro w' hS
          refine OpTo.plain ?_ ?_
          exact rfl
          have HS := Lib.hid hS
          clear hS
          go_wp2_with fail
          all_goals first | exact HS.out | exact ⟨rfl, HS.out⟩ | rfl
        · intro w' hS
          refine OpTo.plain ?_ ?_
          exact rfl
          have hl := Nat.lt_of_lt_of_le H3.out.blk.lt hS.size
          have d := (H3.out.blk.below hS H3.out.blk.lt).ledMap
          have HS := Lib.hid hS
          clear hS
          go_wp2_with fail
          all_goals first | exact HS.out | exact ⟨rfl, HS.out⟩ | rfl
        · intro w' hS
          refine OpTo.plain ?_ ?_
          exact rfl
          have hl := Nat.lt_of_lt_of_le H3.out.blk.lt hS.size
          have d := (H3.out.blk.below hS H3.out.blk.lt).ledMap
          have HS := Lib.hid hS
          clear hS
          go_wp2_with fail
          all_goals first | exact HS.out | exact ⟨rfl, HS.out⟩ | rfl
        · intro w' hS
          refine OpTo.plain ?_ ?_
          exact rfl
          have hl := Nat.lt_of_lt_of_le H3.out.blk.lt hS.size
          have d := (H3.out.blk.below hS H3.out.blk.lt).ledMap
          have HS := Lib.hid hS
          clear hS
          go_wp2_with fail
          all_goals first | exact HS.out | exact ⟨rfl, HS.out⟩ | rfl
        · intro w' hS
          refine OpTo.plain ?_ ?_
          exact rfl
          have hl0 := Nat.lt_of_lt_of_le KE3.out.lt hS.size
          have d0_0 := (KE3.out.below hS KE3.out.lt).cell 0
          have d0_1 := (KE3.out.below hS KE3.out.lt).cell 1
          have d0_2 := (KE3.out.below hS KE3.out.lt).cell 2
          simp at d0_0 d0_1 d0_2
          have HS := Lib.hid hS
          clear hS
          go_wp2_with fail
          all_goals first | exact HS.out | exact ⟨rfl, HS.out⟩ | rfl
        · intro w' hS
          refine OpTo.plain ?_ ?_
          exact rfl
          have HS := Lib.hid hS
          clear hS
          go_wp2_with fail
          all_goals first | exact HS.out | exact ⟨rfl, HS.out⟩ | rfl
        · intro w' hS
          refine OpTo.plain ?_ ?_
          exact rfl
          have hl0 := Nat.lt_of_lt_of_le KA3.out.lt hS.size
          have d0_0 := (KA3.out.below hS KA3.out.lt).cell 0
          have d0_1 := (KA3.out.below hS KA3.out.lt).cell 1
          simp at d0_0 d0_1
          have HS := Lib.hid hS
          clear hS
          go_wp2_with fail
          all_goals first | exact HS.out | exact ⟨rfl, HS.out⟩ | rfl
        · intro w' hS
          refine OpTo.plain ?_ ?_
          exact rfl
          have hl0 := Nat.lt_of_lt_of_le KA3.out.lt hS.size
          have d0_0 := (KA3.out.below hS KA3.out.lt).cell 0
          have d0_1 := (KA3.out.below hS KA3.out.lt).cell 1
          simp at d0_0 d0_1
          have HS := Lib.hid hS
          clear hS
          go_wp2_with fail
          all_goals first | exact HS.out | exact ⟨rfl, HS.out⟩ | rfl
        · intro w' hS
          refine OpTo.plain ?_ ?_
          exact rfl
          have HS := Lib.hid hS
          clear hS
          go_wp2_with fail
          all_goals first | exact HS.out | exact ⟨rfl, HS.out⟩ | rfl
      simp only [List.getD_cons_succ, List.getD_cons_zero]
      intro w' hS
      with_reducible refine OpTo.plain ?_ ?_
      exact rfl
      obtain ⟨w4, hr, hm4, ht4⟩ := (H3.out.map.below hS H3.out.map.lt).store HI.out.inv (x := (⟨x.cr, x.de, x.cu, n, x.db⟩ : Ln)) hf l6.out
      refine wp_mapUpdate_of 83 (.tmp 28) (.tmp 29) (.tmp 33) rfl rfl rfl rfl hr ⟨rfl, ?_⟩
      have HE := Lib.hid (show LedM w4 G M ps (setL ls (⟨x.cr, x.de, x.cu, n, x.db⟩ : Ln)) ∧ Keep (· = M) w w4 from by
        have hk4 := ht4.keep
        exact ⟨⟨((H3.out.blk.below hS H3.out.blk.lt)).keep hk4 (fun e => H.out.ne e.symm), hm4⟩, (Keep.of_below (B3.out.trans (hS.mono B3.out.size))).trans hk4⟩)
      clear hr hm4 ht4 hS
      go_wp2_with fail
      go_ret
      exact ⟨by rw [EE.out.1]; rfl, by rw [EE.out.2]; exact HE.out.1, HE.out.2⟩

end Go.Proofs.Ytdpkcamhafkkbaa
