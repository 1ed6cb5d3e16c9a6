/-
  The program's ledgers: Forgive.
-/
import Derived.Test.YtdpkcamhafkkbaaPLed3
namespace Go.Proofs.Ytdpkcamhafkkbaa
open Go.RowKit
set_option linter.unusedSimpArgs false
set_option linter.unusedVariables false

theorem LedM.mades {w : World} {G M : Nat} {ps : List Int} {ls : List Ln} (h : LedM w G M ps ls) : ∀ w', Below w.heap.size w w' → Calls Try.prog 41 #[.pointer (some ⟨G, 0, none⟩)] w' fun e w'' => e = .returned (.bool true) ∧ w' = w'' :=
  fun w' k => made_any (h.blk.below k h.blk.lt)
theorem setL_self {ls : List Ln} (h : Inv ls) {y : Ln} (hy : y ∈ ls) : setL ls y = ls := by
  refine sorted_ext _ _ (setL_sorted h.sorted y) h.sorted fun z => ?_
  rw [setL_mem_iff h.sorted]
  have hl := (h.good y hy).li
  constructor
  · rintro (⟨a, _⟩ | ⟨rfl, _⟩)
    · exact a
    · exact hy
  · intro hz
    by_cases hr : z.rank = y.rank
    · refine .inr ⟨?_, by omega⟩
      obtain ⟨e1, e2, e3⟩ := rank_inj (h.good z hz).fits (h.good y hy).fits hr
      have k1 := (line_iff h y.cr y.de y.cu z).2 ⟨hz, e1, e2, e3⟩
      have k2 := (line_iff h y.cr y.de y.cu y).2 ⟨hy, rfl, rfl, rfl⟩
      rw [k1] at k2
      exact Option.some.inj k2
    · exact .inl ⟨hz, hr⟩
theorem oweL_none {ls : List Ln} {a b c n : Int} (h : lineL ls a b c = none) : oweL ls a b c n = ls := by unfold oweL; rw [h]; rfl
theorem oweL_some {ls : List Ln} {a b c n : Int} {x : Ln} (h : lineL ls a b c = some x) : oweL ls a b c n = setL ls (x.owe (x.db + n)) := by unfold oweL; rw [h, lnAt_some h]; rfl
theorem oweL_inv {ls : List Ln} (h : Inv ls) {a b c n : Int} (hn : ∀ x, lineL ls a b c = some x → 0 ≤ x.db + n ∧ x.db + n ≤ x.li) : Inv (oweL ls a b c n) := by
  cases hl : lineL ls a b c with
  | none => rw [oweL_none hl]; exact h
  | some x =>
    rw [oweL_some hl]
    have hg := h.good x (lineL_mem hl).1
    have := hn x hl
    exact h.set fun _ => ⟨hg.cr, hg.de, hg.cu, hg.ne, hg.li, this⟩
theorem oweL_other {ls : List Ln} (h : Inv ls) {a b c n p q r : Int} (hn : ∀ x, lineL ls a b c = some x → 0 ≤ x.db + n ∧ x.db + n ≤ x.li) (hne : ¬ (a = p ∧ b = q ∧ c = r)) : lineL (oweL ls a b c n) p q r = lineL ls p q r := by
  cases hl : lineL ls a b c with
  | none => rw [oweL_none hl]
  | some x =>
    rw [oweL_some hl]
    obtain ⟨hm, e1, e2, e3⟩ := lineL_mem hl
    have hg := h.good x hm
    have := hn x hl
    rw [line_set h (x := x.owe (x.db + n)) (fun _ => ⟨hg.cr, hg.de, hg.cu, hg.ne, hg.li, this⟩) (Ln.Good.fits ⟨hg.cr, hg.de, hg.cu, hg.ne, hg.li, this⟩) p q r, if_neg]
    rintro ⟨k1, k2, k3⟩
    exact hne ⟨e1.symm.trans k1, e2.symm.trans k2, e3.symm.trans k3⟩
/-- A push, as two that are owed otherwise. -/
theorem push_owe {ps : List Int} {ls : List Ln} (h : LInv ps ls) {a b c n : Int} (h1 : 1 ≤ n) (hr : n ≤ roomL ps ls a b c) :
    (∀ x, lineL ls a b c = some x → 0 ≤ x.db + -(min n (lnAt ls a b c).db) ∧ x.db + -(min n (lnAt ls a b c).db) ≤ x.li) ∧
    (∀ y, lineL (oweL ls a b c (-(min n (lnAt ls a b c).db))) b a c = some y → 0 ≤ y.db + (n - min n (lnAt ls a b c).db) ∧ y.db + (n - min n (lnAt ls a b c).db) ≤ y.li) ∧
    oweL (oweL ls a b c (-(min n (lnAt ls a b c).db))) b a c (n - min n (lnAt ls a b c).db) = pushTo ls a b c n := by
  have hab : a ≠ b := by
    rintro rfl
    unfold roomL at hr
    rw [if_pos (.inl rfl)] at hr
    omega
  have hx := lnAt_bd h.inv.good a b c
  have hy := lnAt_bd h.inv.good b a c
  rw [← room_eq h a b c] at hr
  have p1 : ∀ x, lineL ls a b c = some x → 0 ≤ x.db + -(min n (lnAt ls a b c).db) ∧ x.db + -(min n (lnAt ls a b c).db) ≤ x.li := by
    intro x hl
    rw [lnAt_some hl] at hx ⊢
    have := (h.inv.good x (lineL_mem hl).1).db
    omega
  have ho := oweL_other h.inv p1 (p := b) (q := a) (r := c) (by omega)
  have hi := oweL_inv h.inv p1
  have e1 : oweL ls a b c (-(min n (lnAt ls a b c).db)) = push1 ls a b c n := by
    unfold oweL push1
    rw [show (lnAt ls a b c).db + -(min n (lnAt ls a b c).db) = (lnAt ls a b c).db - min n (lnAt ls a b c).db by omega]
  have e2 : push2 ls a b c n = n - min n (lnAt ls a b c).db := by
    unfold push2
    cases hl : lineL ls a b c with
    | none => rw [lnAt_none hl]; simp [noLn]; omega
    | some x => simp
  have ea : lnAt (oweL ls a b c (-(min n (lnAt ls a b c).db))) b a c = lnAt ls b a c := by
    generalize oweL ls a b c (-(min n (lnAt ls a b c).db)) = l1 at ho
    unfold lnAt; rw [ho]
  refine ⟨p1, ?_, ?_⟩
  · intro y hl
    have hgy := (hi.good y (lineL_mem hl).1).db
    rw [ho] at hl
    rw [lnAt_some hl] at hr hy
    omega
  · unfold pushTo
    rw [e2, ← e1]
    generalize hls : oweL ls a b c (-(min n (lnAt ls a b c).db)) = ls1 at *
    by_cases h0 : 0 < n - min n (lnAt ls a b c).db
    · rw [if_pos h0]
      cases hl : lineL ls1 b a c with
      | none =>
        rw [lnAt_none hl] at ea
        rw [← ea] at hr hy
        simp only [noLn] at hr
        omega
      | some y => rw [oweL_some hl, lnAt_some hl]
    · rw [if_neg h0]
      have hz : n - min n (lnAt ls a b c).db = 0 := by omega
      rw [hz]
      cases hl : lineL ls1 b a c with
      | none => exact oweL_none hl
      | some y =>
        rw [oweL_some hl, show y.owe (y.db + 0) = y by unfold Ln.owe; rw [Int.add_zero]]
        exact setL_self hi (lineL_mem hl).1

set_option maxHeartbeats 4000000 in
set_option maxRecDepth 100000 in
theorem forgive_any {w : World} {G M : Nat} {ps : List Int} {ls : List Ln} (h : LedM w G M ps ls) (hI : Inv ls) {a b c n : Int} (ha : In8 a) (hb : In8 b) (hc : In8 c) (hn : In64 n) :
    Calls Try.prog 39 #[.pointer (some ⟨G, 0, none⟩), .int .u8 a, .int .u8 b, .int .u8 c, .int .i64 n] w fun e w' => e = .returned (.int .i64 (forgiveE ls a b c n)) ∧ LedM w' G M ps (forgiveL ls a b c n) ∧ Keep (· = M) w w' := by
  have H := Lib.hid h
  have HA := Lib.hid h.alls
  have HM := Lib.hid h.mades
  have HL := Lib.hid (fun w' k => (h.map.looks hI ha hb hc w' k).1)
  obtain ⟨n0, n1⟩ := hn
  rcases isSome_cases (lineL ls a b c) with ⟨hl, hs⟩ | ⟨x, hl, hs⟩
  · rw [lnAt_none hl, hs] at HL
    dsimp only [noLn] at HL
    clear hs h hI ha hb hc
    go_enter Try.func39, Try.ntmps39
    go_wp2_with fail
    have B0 := Lib.hid ((Below.refl w.heap.size w).alloc (Nat.le_refl _) (.cells #[.int .u8 a, .int .u8 b, .int .u8 c] 86))
    have KE := Lib.hid (Blk.new w #[.int .u8 a, .int .u8 b, .int .u8 c] 86)
    generalize (w.alloc (.cells #[.int .u8 a, .int .u8 b, .int .u8 c] 86)) = W at B0 KE ⊢
    refine region_ghost (by kernel_rfl) (fun g : Nat → Nat => [(.pointer (some ⟨G, 0, none⟩)), (.map (some M)), (.agg #[.int .u8 a, .int .u8 b, .int .u8 c]), (.tuple #[.agg #[.int .i64 0, .int .i64 0], .bool false]), (.tuple #[.agg #[.int .i64 0, .int .i64 0], .bool false]), (.agg #[.int .i64 0, .int .i64 0]), (.bool false), (.pointer (some ⟨g 7, 0, none⟩)), undef, (.bool false)])
      (Lays W [(⟨7, 8, (.cells #[.int .i64 0, .int .i64 0] 82), (.cells #[.int .i64 0, .int .i64 0] 82)⟩ : Spec)]) (by kernel_rfl) (fun _ => 0) (Lays.start _ _ _) ?_
    intro AF hAF
    simp only [List.toList_toArray, puts, Act.put, List.getD_cons_zero, List.getD_cons_succ, List.setIfInBounds_toArray, List.set_cons_succ, List.set_cons_zero] at hAF
    have hAF2 : _ = AF := funext hAF
    subst hAF2
    clear hAF
    refine ⟨?_, ?_⟩
    · simp only [List.toList_toArray, EachG]
      refine ⟨?_, ?_, ?_, ?_, ?_, ?_, ?_, ?_, ?_, ?_, trivial⟩
      · intro g D w' hD hW hC hI
        refine ⟨g, fun _ _ _ => rfl, ?_⟩
        with_reducible refine OpTo.plain ?_ ?_
        exact rfl
        have hS := hI.below
        have HS := Lib.hid (hI.step (Below.refl _ _) (k := 0) (by rfl))
        clear hI hS hC hW hD
        go_wp2_with fail
        all_goals first | exact HS.out | exact ⟨rfl, HS.out⟩ | rfl
      · intro g D w' hD hW hC hI
        refine ⟨g, fun _ _ _ => rfl, ?_⟩
        with_reducible refine OpTo.plain ?_ ?_
        exact rfl
        have hS := hI.below
        have HI := Lib.hid hI
        have HC := Lib.hid (HA.out w' (B0.out.trans (hS.mono B0.out.size)))
        clear hI hS hC hW hD
        go_wp2_with fail
        refine HC.out.mono ?_
        rintro e w'' ⟨rfl, rfl⟩
        exact ⟨rfl, HI.out.step (Below.refl _ _) (by rfl)⟩
      · intro g D w' hD hW hC hI
        refine ⟨g, fun _ _ _ => rfl, ?_⟩
        with_reducible refine OpTo.plain ?_ ?_
        exact rfl
        have hS := hI.below
        have hl0 := Nat.lt_of_lt_of_le KE.out.lt hS.size
        have d0_0 := (KE.out.below hS KE.out.lt).cell 0
        have d0_1 := (KE.out.below hS KE.out.lt).cell 1
        have d0_2 := (KE.out.below hS KE.out.lt).cell 2
        simp at d0_0 d0_1 d0_2
        have HS := Lib.hid (hI.step (Below.refl _ _) (k := 2) (by rfl))
        clear hI hS hC hW hD
        go_wp2_with fail
        all_goals first | exact HS.out | exact ⟨rfl, HS.out⟩ | rfl
      · intro g D w' hD hW hC hI
        refine ⟨g, fun _ _ _ => rfl, ?_⟩
        with_reducible refine OpTo.plain ?_ ?_
        exact rfl
        have hS := hI.below
        have q := HL.out w' (B0.out.trans (hS.mono B0.out.size))
        have HS := Lib.hid (hI.step (Below.refl _ _) (k := 3) (by rfl))
        clear hI hS hC hW hD
        go_wp2_with fail
        all_goals first | exact HS.out | exact ⟨rfl, HS.out⟩ | rfl
      · intro g D w' hD hW hC hI
        refine ⟨g, fun _ _ _ => rfl, ?_⟩
        with_reducible refine OpTo.plain ?_ ?_
        exact rfl
        have hS := hI.below
        have HS := Lib.hid (hI.step (Below.refl _ _) (k := 4) (by rfl))
        clear hI hS hC hW hD
        go_wp2_with fail
        all_goals first | exact HS.out | exact ⟨rfl, HS.out⟩ | rfl
      · intro g D w' hD hW hC hI
        refine ⟨g, fun _ _ _ => rfl, ?_⟩
        with_reducible refine OpTo.plain ?_ ?_
        exact rfl
        have hS := hI.below
        have HS := Lib.hid (hI.step (Below.refl _ _) (k := 5) (by rfl))
        clear hI hS hC hW hD
        go_wp2_with fail
        all_goals first | exact HS.out | exact ⟨rfl, HS.out⟩ | rfl
      · intro g D w' hD hW hC hI
        refine ⟨g, fun _ _ _ => rfl, ?_⟩
        with_reducible refine OpTo.plain ?_ ?_
        exact rfl
        have hS := hI.below
        have HS := Lib.hid (hI.step (Below.refl _ _) (k := 6) (by rfl))
        clear hI hS hC hW hD
        go_wp2_with fail
        all_goals first | exact HS.out | exact ⟨rfl, HS.out⟩ | rfl
      · intro g D w' hD hW hC hI
        have hN : D 8 = false := waits_not hC hD 12 8 (by kernel_rfl)
        refine ⟨upd g 7 w'.heap.size, vals_upd _ (fun g : Nat → Nat => [(.pointer (some ⟨G, 0, none⟩)), (.map (some M)), (.agg #[.int .u8 a, .int .u8 b, .int .u8 c]), (.tuple #[.agg #[.int .i64 0, .int .i64 0], .bool false]), (.tuple #[.agg #[.int .i64 0, .int .i64 0], .bool false]), (.agg #[.int .i64 0, .int .i64 0]), (.bool false), (.pointer (some ⟨g 7, 0, none⟩)), undef, (.bool false)]) g 7 _ 12 hC hD ?_, ?_⟩
        · intro j hj
          match j, hj with
          | 0, _ => exact .inr rfl
          | 1, _ => exact .inr rfl
          | 2, _ => exact .inr rfl
          | 3, _ => exact .inr rfl
          | 4, _ => exact .inr rfl
          | 5, _ => exact .inr rfl
          | 6, _ => exact .inr rfl
          | 7, _ => exact .inl (.inl rfl)
          | 8, _ => exact .inr rfl
          | 9, _ => exact .inr rfl
          | j + 10, _ => exact .inr rfl
        with_reducible refine OpTo.plain ?_ ?_
        exact rfl
        have HS := Lib.hid (hI.lay (⟨7, 8, (.cells #[.int .i64 0, .int .i64 0] 82), (.cells #[.int .i64 0, .int .i64 0] 82)⟩ : Spec) (by simp) (by rfl) (.inr hN) (by rfl) (fun s' hs' _ => List.mem_singleton.1 hs') (.cells #[.int .i64 0, .int .i64 0] 82) rfl)
        clear hI hC hW hD hN
        go_wp2_with fail
        all_goals first | exact HS.out | exact ⟨rfl, HS.out⟩ | rfl
      · intro g D w' hD hW hC hI
        have hP : D 7 = true := waited_done hC hW (d := 12) (by kernel_rfl)
        obtain ⟨hg, hk⟩ := hI.zeroed (⟨7, 8, (.cells #[.int .i64 0, .int .i64 0] 82), (.cells #[.int .i64 0, .int .i64 0] 82)⟩ : Spec) (by simp) hP hD
        refine ⟨g, fun _ _ _ => rfl, ?_⟩
        with_reducible refine OpTo.plain ?_ ?_
        exact rfl
        refine wp_store_row 82 (.tmp 12) (.tmp 23) rfl (g 7) #[.int .i64 0, .int .i64 0] rfl rfl 82 _ hk (by kernel_rfl) rfl (by simp [Value.oneCell']) ⟨rfl, ?_⟩
        exact hI.fill (⟨7, 8, (.cells #[.int .i64 0, .int .i64 0] 82), (.cells #[.int .i64 0, .int .i64 0] 82)⟩ : Spec) (by simp) (by rfl) (show (8 : Nat) ≠ 7 by decide) (fun s' hs' _ => List.mem_singleton.1 hs') hP (below_keepRow _ _) (setRow_heap w' (g 7) _ _ 82 (0, 0) hk)
      · intro g D w' hD hW hC hI
        refine ⟨g, fun _ _ _ => rfl, ?_⟩
        with_reducible refine OpTo.plain ?_ ?_
        exact rfl
        have hS := hI.below
        have HS := Lib.hid (hI.step (Below.refl _ _) (k := 9) (by rfl))
        clear hI hS hC hW hD
        go_wp2_with fail
        all_goals first | exact HS.out | exact ⟨rfl, HS.out⟩ | rfl
    intro g1 D w2 hall hI2
    obtain ⟨hg1, hk1⟩ := hI2.full (⟨7, 8, (.cells #[.int .i64 0, .int .i64 0] 82), (.cells #[.int .i64 0, .int .i64 0] 82)⟩ : Spec) (by simp) (hall 7 (by decide)) (hall 8 (by decide))
    have B2 := Lib.hid (B0.out.trans (hI2.below.mono B0.out.size))
    have KE2 := Lib.hid (KE.out.below hI2.below KE.out.lt)
    have KA2 : Hid (Blk w2 (g1 7) #[.int .i64 0, .int .i64 0] 82) := Lib.hid hk1
    have C2 := Lib.hid (HM.out w2 B2.out)
    dsimp only
    generalize g1 7 = ga at *
    clear hI2 hall hk1 KE B0 HL hg1 HA HM
    have a1 := KA2.out.cell 1
    have la := KA2.out.lt
    simp at a1
    by_cases h1 : n < 1
    · have EE := Lib.hid (show forgiveE ls a b c n = 1 ∧ forgiveL ls a b c n = ls from ⟨by unfold forgiveE; rw [if_pos h1], by unfold forgiveL forgiveE; rw [if_pos h1]; rfl⟩)
      go_wp2_with fail
      refine C2.out.mono ?_
      rintro e w2 ⟨rfl, rfl⟩
      go_wp2_with fail
      go_ret
      exact ⟨by rw [EE.out.1]; rfl, by rw [EE.out.2]; exact H.out.below B2.out, Keep.of_below B2.out⟩
    · have EE := Lib.hid (show forgiveE ls a b c n = 7 ∧ forgiveL ls a b c n = ls from ⟨by unfold forgiveE; rw [if_neg h1, if_pos hl], by unfold forgiveL forgiveE; rw [if_neg h1, if_pos hl]; rfl⟩)
      clear hl
      go_wp2_with fail
      refine C2.out.mono ?_
      rintro e w2 ⟨rfl, rfl⟩
      go_wp2_with fail
      go_ret
      exact ⟨by rw [EE.out.1]; rfl, by rw [EE.out.2]; exact H.out.below B2.out, Keep.of_below B2.out⟩
  · rw [lnAt_some hl, hs] at HL
    obtain ⟨hm, rfl, rfl, rfl⟩ := lineL_mem hl
    have hf := (hI.good x hm).fits
    have hd := (hI.good x hm).db
    clear h ha hb hc
    go_enter Try.func39, Try.ntmps39
    go_wp2_with fail
    have B0 := Lib.hid ((Below.refl w.heap.size w).alloc (Nat.le_refl _) (.cells #[.int .u8 x.cr, .int .u8 x.de, .int .u8 x.cu] 86))
    have KE := Lib.hid (Blk.new w #[.int .u8 x.cr, .int .u8 x.de, .int .u8 x.cu] 86)
    generalize (w.alloc (.cells #[.int .u8 x.cr, .int .u8 x.de, .int .u8 x.cu] 86)) = W at B0 KE ⊢
    refine region_ghost (by kernel_rfl) (fun g : Nat → Nat => [(.pointer (some ⟨G, 0, none⟩)), (.map (some M)), (.agg #[.int .u8 x.cr, .int .u8 x.de, .int .u8 x.cu]), (.tuple #[.agg #[.int .i64 x.li, .int .i64 x.db], .bool true]), (.tuple #[.agg #[.int .i64 x.li, .int .i64 x.db], .bool true]), (.agg #[.int .i64 x.li, .int .i64 x.db]), (.bool true), (.pointer (some ⟨g 7, 0, none⟩)), undef, (.bool true)])
      (Lays W [(⟨7, 8, (.cells #[.int .i64 0, .int .i64 0] 82), (.cells #[.int .i64 x.li, .int .i64 x.db] 82)⟩ : Spec)]) (by kernel_rfl) (fun _ => 0) (Lays.start _ _ _) ?_
    intro AF hAF
    simp only [List.toList_toArray, puts, Act.put, List.getD_cons_zero, List.getD_cons_succ, List.setIfInBounds_toArray, List.set_cons_succ, List.set_cons_zero] at hAF
    have hAF2 : _ = AF := funext hAF
    subst hAF2
    clear hAF
    refine ⟨?_, ?_⟩
    · simp only [List.toList_toArray, EachG]
      refine ⟨?_, ?_, ?_, ?_, ?_, ?_, ?_, ?_, ?_, ?_, trivial⟩
      · intro g D w' hD hW hC hI
        refine ⟨g, fun _ _ _ => rfl, ?_⟩
        with_reducible refine OpTo.plain ?_ ?_
        exact rfl
        have hS := hI.below
        have HS := Lib.hid (hI.step (Below.refl _ _) (k := 0) (by rfl))
        clear hI hS hC hW hD
        go_wp2_with fail
        all_goals first | exact HS.out | exact ⟨rfl, HS.out⟩ | rfl
      · intro g D w' hD hW hC hI
        refine ⟨g, fun _ _ _ => rfl, ?_⟩
        with_reducible refine OpTo.plain ?_ ?_
        exact rfl
        have hS := hI.below
        have HI := Lib.hid hI
        have HC := Lib.hid (HA.out w' (B0.out.trans (hS.mono B0.out.size)))
        clear hI hS hC hW hD
        go_wp2_with fail
        refine HC.out.mono ?_
        rintro e w'' ⟨rfl, rfl⟩
        exact ⟨rfl, HI.out.step (Below.refl _ _) (by rfl)⟩
      · intro g D w' hD hW hC hI
        refine ⟨g, fun _ _ _ => rfl, ?_⟩
        with_reducible refine OpTo.plain ?_ ?_
        exact rfl
        have hS := hI.below
        have hl0 := Nat.lt_of_lt_of_le KE.out.lt hS.size
        have d0_0 := (KE.out.below hS KE.out.lt).cell 0
        have d0_1 := (KE.out.below hS KE.out.lt).cell 1
        have d0_2 := (KE.out.below hS KE.out.lt).cell 2
        simp at d0_0 d0_1 d0_2
        have HS := Lib.hid (hI.step (Below.refl _ _) (k := 2) (by rfl))
        clear hI hS hC hW hD
        go_wp2_with fail
        all_goals first | exact HS.out | exact ⟨rfl, HS.out⟩ | rfl
      · intro g D w' hD hW hC hI
        refine ⟨g, fun _ _ _ => rfl, ?_⟩
        with_reducible refine OpTo.plain ?_ ?_
        exact rfl
        have hS := hI.below
        have q := HL.out w' (B0.out.trans (hS.mono B0.out.size))
        have HS := Lib.hid (hI.step (Below.refl _ _) (k := 3) (by rfl))
        clear hI hS hC hW hD
        go_wp2_with fail
        all_goals first | exact HS.out | exact ⟨rfl, HS.out⟩ | rfl
      · intro g D w' hD hW hC hI
        refine ⟨g, fun _ _ _ => rfl, ?_⟩
        with_reducible refine OpTo.plain ?_ ?_
        exact rfl
        have hS := hI.below
        have HS := Lib.hid (hI.step (Below.refl _ _) (k := 4) (by rfl))
        clear hI hS hC hW hD
        go_wp2_with fail
        all_goals first | exact HS.out | exact ⟨rfl, HS.out⟩ | rfl
      · intro g D w' hD hW hC hI
        refine ⟨g, fun _ _ _ => rfl, ?_⟩
        with_reducible refine OpTo.plain ?_ ?_
        exact rfl
        have hS := hI.below
        have HS := Lib.hid (hI.step (Below.refl _ _) (k := 5) (by rfl))
        clear hI hS hC hW hD
        go_wp2_with fail
        all_goals first | exact HS.out | exact ⟨rfl, HS.out⟩ | rfl
      · intro g D w' hD hW hC hI
        refine ⟨g, fun _ _ _ => rfl, ?_⟩
        with_reducible refine OpTo.plain ?_ ?_
        exact rfl
        have hS := hI.below
        have HS := Lib.hid (hI.step (Below.refl _ _) (k := 6) (by rfl))
        clear hI hS hC hW hD
        go_wp2_with fail
        all_goals first | exact HS.out | exact ⟨rfl, HS.out⟩ | rfl
      · intro g D w' hD hW hC hI
        have hN : D 8 = false := waits_not hC hD 12 8 (by kernel_rfl)
        refine ⟨upd g 7 w'.heap.size, vals_upd _ (fun g : Nat → Nat => [(.pointer (some ⟨G, 0, none⟩)), (.map (some M)), (.agg #[.int .u8 x.cr, .int .u8 x.de, .int .u8 x.cu]), (.tuple #[.agg #[.int .i64 x.li, .int .i64 x.db], .bool true]), (.tuple #[.agg #[.int .i64 x.li, .int .i64 x.db], .bool true]), (.agg #[.int .i64 x.li, .int .i64 x.db]), (.bool true), (.pointer (some ⟨g 7, 0, none⟩)), undef, (.bool true)]) g 7 _ 12 hC hD ?_, ?_⟩
        · intro j hj
          match j, hj with
          | 0, _ => exact .inr rfl
          | 1, _ => exact .inr rfl
          | 2, _ => exact .inr rfl
          | 3, _ => exact .inr rfl
          | 4, _ => exact .inr rfl
          | 5, _ => exact .inr rfl
          | 6, _ => exact .inr rfl
          | 7, _ => exact .inl (.inl rfl)
          | 8, _ => exact .inr rfl
          | 9, _ => exact .inr rfl
          | j + 10, _ => exact .inr rfl
        with_reducible refine OpTo.plain ?_ ?_
        exact rfl
        have HS := Lib.hid (hI.lay (⟨7, 8, (.cells #[.int .i64 0, .int .i64 0] 82), (.cells #[.int .i64 x.li, .int .i64 x.db] 82)⟩ : Spec) (by simp) (by rfl) (.inr hN) (by rfl) (fun s' hs' _ => List.mem_singleton.1 hs') (.cells #[.int .i64 0, .int .i64 0] 82) rfl)
        clear hI hC hW hD hN
        go_wp2_with fail
        all_goals first | exact HS.out | exact ⟨rfl, HS.out⟩ | rfl
      · intro g D w' hD hW hC hI
        have hP : D 7 = true := waited_done hC hW (d := 12) (by kernel_rfl)
        obtain ⟨hg, hk⟩ := hI.zeroed (⟨7, 8, (.cells #[.int .i64 0, .int .i64 0] 82), (.cells #[.int .i64 x.li, .int .i64 x.db] 82)⟩ : Spec) (by simp) hP hD
        refine ⟨g, fun _ _ _ => rfl, ?_⟩
        with_reducible refine OpTo.plain ?_ ?_
        exact rfl
        refine wp_store_row 82 (.tmp 12) (.tmp 23) rfl (g 7) #[.int .i64 x.li, .int .i64 x.db] rfl rfl 82 _ hk (by kernel_rfl) rfl (by simp [Value.oneCell']) ⟨rfl, ?_⟩
        exact hI.fill (⟨7, 8, (.cells #[.int .i64 0, .int .i64 0] 82), (.cells #[.int .i64 x.li, .int .i64 x.db] 82)⟩ : Spec) (by simp) (by rfl) (show (8 : Nat) ≠ 7 by decide) (fun s' hs' _ => List.mem_singleton.1 hs') hP (below_keepRow _ _) (setRow_heap w' (g 7) _ _ 82 (0, 0) hk)
      · intro g D w' hD hW hC hI
        refine ⟨g, fun _ _ _ => rfl, ?_⟩
        with_reducible refine OpTo.plain ?_ ?_
        exact rfl
        have hS := hI.below
        have HS := Lib.hid (hI.step (Below.refl _ _) (k := 9) (by rfl))
        clear hI hS hC hW hD
        go_wp2_with fail
        all_goals first | exact HS.out | exact ⟨rfl, HS.out⟩ | rfl
    intro g1 D w2 hall hI2
    obtain ⟨hg1, hk1⟩ := hI2.full (⟨7, 8, (.cells #[.int .i64 0, .int .i64 0] 82), (.cells #[.int .i64 x.li, .int .i64 x.db] 82)⟩ : Spec) (by simp) (hall 7 (by decide)) (hall 8 (by decide))
    have B2 := Lib.hid (B0.out.trans (hI2.below.mono B0.out.size))
    have KE2 := Lib.hid (KE.out.below hI2.below KE.out.lt)
    have KA2 : Hid (Blk w2 (g1 7) #[.int .i64 x.li, .int .i64 x.db] 82) := Lib.hid hk1
    have C2 := Lib.hid (HM.out w2 B2.out)
    dsimp only
    generalize g1 7 = ga at *
    clear hI2 hall hk1 KE B0 HL hg1 HA HM
    have a1 := KA2.out.cell 1
    have la := KA2.out.lt
    simp at a1
    by_cases h1 : n < 1
    · have EE := Lib.hid (show forgiveE ls x.cr x.de x.cu n = 1 ∧ forgiveL ls x.cr x.de x.cu n = ls from ⟨by unfold forgiveE; rw [if_pos h1], by unfold forgiveL forgiveE; rw [if_pos h1]; rfl⟩)
      clear hl hs hm hd hI hf
      go_wp2_with fail
      refine C2.out.mono ?_
      rintro e w2 ⟨rfl, rfl⟩
      go_wp2_with fail
      go_ret
      exact ⟨by rw [EE.out.1]; rfl, by rw [EE.out.2]; exact H.out.below B2.out, Keep.of_below B2.out⟩
    have hl2 : ¬ lineL ls x.cr x.de x.cu = none := by rw [hl]; simp
    by_cases h2 : x.db < n
    · have EE := Lib.hid (show forgiveE ls x.cr x.de x.cu n = 14 ∧ forgiveL ls x.cr x.de x.cu n = ls from ⟨by unfold forgiveE; rw [if_neg h1, if_neg hl2, lnAt_some hl, if_pos h2], by unfold forgiveL forgiveE; rw [if_neg h1, if_neg hl2, lnAt_some hl, if_pos h2]; rfl⟩)
      clear hl hs hm hd hl2 hI hf
      go_wp2_with fail
      refine C2.out.mono ?_
      rintro e w2 ⟨rfl, rfl⟩
      go_wp2_with fail
      go_ret
      exact ⟨by rw [EE.out.1]; rfl, by rw [EE.out.2]; exact H.out.below B2.out, Keep.of_below B2.out⟩
    · have e0 : forgiveE ls x.cr x.de x.cu n = 0 := by unfold forgiveE; rw [if_neg h1, if_neg hl2, lnAt_some hl, if_neg h2]
      have eL : forgiveL ls x.cr x.de x.cu n = oweL ls x.cr x.de x.cu (-n) := by unfold forgiveL; rw [e0, if_pos rfl, oweL_some hl, lnAt_some hl, Int.sub_eq_add_neg]
      have EE := Lib.hid (And.intro e0 eL)
      clear e0
      have e0 := KE2.out.cell 0; have e1 := KE2.out.cell 1; have e2 := KE2.out.cell 2
      have le := KE2.out.lt
      simp at e0 e1 e2
      have CO := Lib.hid (owe_any (H.out.below B2.out) hI (n := -n) hf.cr hf.de hf.cu (fun y hy => by rw [hl] at hy; cases hy; have := (hI.good x hm).db; omega))
      clear hl hs hm hd hl2 eL hI hf
      go_wp2_with fail
      refine C2.out.mono ?_
      rintro e w2 ⟨rfl, rfl⟩
      go_wp2_with fail
      refine CO.out.mono ?_
      rintro e w3 ⟨rfl, hL3, hK3⟩
      have H3 := Lib.hid hL3
      have K3 := Lib.hid ((Keep.of_below (S := (· = M)) B2.out).trans hK3)
      clear hL3 hK3
      go_wp2_with fail
      go_ret
      exact ⟨by rw [EE.out.1]; rfl, by rw [EE.out.2]; exact H3.out, K3.out⟩

end Go.Proofs.Ytdpkcamhafkkbaa
