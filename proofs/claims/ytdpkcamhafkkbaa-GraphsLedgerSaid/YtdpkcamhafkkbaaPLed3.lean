/-
  The program's ledgers: Room, owe.
-/
import Derived.Test.YtdpkcamhafkkbaaPLed2
namespace Go.Proofs.Ytdpkcamhafkkbaa
open Go.RowKit
set_option linter.unusedSimpArgs false
set_option linter.unusedVariables false

theorem room_eq {ps : List Int} {ls : List Ln} (h : LInv ps ls) (a b c : Int) : (lnAt ls a b c).db + (lnAt ls b a c).li - (lnAt ls b a c).db = roomL ps ls a b c := by
  unfold roomL
  by_cases hz : a = b ∨ a ∉ ps ∨ b ∉ ps
  · rw [if_pos hz]
    have n1 : lineL ls a b c = none := by
      rw [line_none]
      intro y hy ⟨e1, e2, e3⟩
      have g := h.inv.good y hy
      have k := h.ends y hy
      rw [e1, e2] at k
      rcases hz with e | e | e
      · exact g.ne (e1.trans (e.trans e2.symm))
      · exact e k.1
      · exact e k.2
    have n2 : lineL ls b a c = none := by
      rw [line_none]
      intro y hy ⟨e1, e2, e3⟩
      have g := h.inv.good y hy
      have k := h.ends y hy
      rw [e1, e2] at k
      rcases hz with e | e | e
      · exact g.ne (e1.trans (e.symm.trans e2.symm))
      · exact e k.2
      · exact e k.1
    rw [lnAt_none n1, lnAt_none n2]
    rfl
  · rw [if_neg hz]

set_option maxHeartbeats 4000000 in
set_option maxRecDepth 100000 in
theorem room_any {w : World} {G M : Nat} {ps : List Int} {ls : List Ln} (h : LedM w G M ps ls) (hI : LInv ps ls) {a b c : Int} (ha : In8 a) (hb : In8 b) (hc : In8 c) :
    Calls Try.prog 25 #[.pointer (some ⟨G, 0, none⟩), .int .u8 a, .int .u8 b, .int .u8 c] w fun e w' => e = .returned (.int .i64 (roomL ps ls a b c)) ∧ Below w.heap.size w w' := by
  have HA := Lib.hid h.alls
  have HX := Lib.hid (fun w' k => (h.map.looks hI.inv ha hb hc w' k).2)
  have HY := Lib.hid (fun w' k => (h.map.looks hI.inv hb ha hc w' k).2)
  have hx := lnAt_bd hI.inv.good a b c
  have hy := lnAt_bd hI.inv.good b a c
  have E := Lib.hid (room_eq hI a b c)
  generalize lnAt ls a b c = x at *
  generalize lnAt ls b a c = y at *
  clear h hI ha hb hc
  go_enter Try.func25, Try.ntmps25
  go_wp2_with fail
  refine region_ghost (by kernel_rfl) (fun g : Nat → Nat => [(.pointer (some ⟨G, 0, none⟩)), (.map (some M)), (.int .u8 a), (.int .u8 b), (.int .u8 c), (.agg #[.int .u8 a, .int .u8 b, .int .u8 c]), (.agg #[.int .i64 x.li, .int .i64 x.db]), (.pointer (some ⟨G, 0, none⟩)), (.map (some M)), (.int .u8 b), (.int .u8 a), (.int .u8 c), (.agg #[.int .u8 b, .int .u8 a, .int .u8 c]), (.agg #[.int .i64 y.li, .int .i64 y.db]), (.pointer (some ⟨g 14, 0, none⟩)), (.pointer (some ⟨g 15, 0, none⟩)), undef, undef])
    (Lays w [(⟨14, 16, (.cells #[.int .i64 0, .int .i64 0] 82), (.cells #[.int .i64 x.li, .int .i64 x.db] 82)⟩ : Spec), (⟨15, 17, (.cells #[.int .i64 0, .int .i64 0] 82), (.cells #[.int .i64 y.li, .int .i64 y.db] 82)⟩ : Spec)]) (by kernel_rfl) (fun _ => 0) (Lays.start _ _ _) ?_
  intro AF hAF
  simp only [List.toList_toArray, puts, Act.put, List.getD_cons_zero, List.getD_cons_succ, List.setIfInBounds_toArray, List.set_cons_succ, List.set_cons_zero] at hAF
  have hAF2 : _ = AF := funext hAF
  subst hAF2
  clear hAF
  refine ⟨?_, ?_⟩
  · simp only [List.toList_toArray, EachG]
    refine ⟨?_, ?_, ?_, ?_, ?_, ?_, ?_, ?_, ?_, ?_, ?_, ?_, ?_, ?_, ?_, ?_, ?_, ?_, trivial⟩
    · intro g D w' hD hW hC hI
      refine ⟨g, fun _ _ _ => rfl, ?_⟩
      with_reducible refine OpTo.plain ?_ ?_
      exact rfl
      have hS := hI.below
      have HS := Lib.hid (hI.step (Below.refl _ _) (k := 0) (by rfl))
      clear hI hS hC hW hD
      go_wp2_with fail
      all_goals first | exact HS.out | exact ⟨rfl, HS.out⟩ | rfl
    · intro g D w' hD hW hC hI
      refine ⟨g, fun _ _ _ => rfl, ?_⟩
      with_reducible refine OpTo.plain ?_ ?_
      exact rfl
      have hS := hI.below
      have HI := Lib.hid hI
      have HC := Lib.hid (HA.out w' hS)
      clear hI hS hC hW hD
      go_wp2_with fail
      refine HC.out.mono ?_
      rintro e w'' ⟨rfl, rfl⟩
      exact ⟨rfl, HI.out.step (Below.refl _ _) (by rfl)⟩
    · intro g D w' hD hW hC hI
      refine ⟨g, fun _ _ _ => rfl, ?_⟩
      with_reducible refine OpTo.plain ?_ ?_
      exact rfl
      have hS := hI.below
      have HS := Lib.hid (hI.step (Below.refl _ _) (k := 2) (by rfl))
      clear hI hS hC hW hD
      go_wp2_with fail
      all_goals first | exact HS.out | exact ⟨rfl, HS.out⟩ | rfl
    · intro g D w' hD hW hC hI
      refine ⟨g, fun _ _ _ => rfl, ?_⟩
      with_reducible refine OpTo.plain ?_ ?_
      exact rfl
      have hS := hI.below
      have HS := Lib.hid (hI.step (Below.refl _ _) (k := 3) (by rfl))
      clear hI hS hC hW hD
      go_wp2_with fail
      all_goals first | exact HS.out | exact ⟨rfl, HS.out⟩ | rfl
    · intro g D w' hD hW hC hI
      refine ⟨g, fun _ _ _ => rfl, ?_⟩
      with_reducible refine OpTo.plain ?_ ?_
      exact rfl
      have hS := hI.below
      have HS := Lib.hid (hI.step (Below.refl _ _) (k := 4) (by rfl))
      clear hI hS hC hW hD
      go_wp2_with fail
      all_goals first | exact HS.out | exact ⟨rfl, HS.out⟩ | rfl
    · intro g D w' hD hW hC hI
      refine ⟨g, fun _ _ _ => rfl, ?_⟩
      with_reducible refine OpTo.plain ?_ ?_
      exact rfl
      have hS := hI.below
      have HS := Lib.hid (hI.step (Below.refl _ _) (k := 5) (by rfl))
      clear hI hS hC hW hD
      go_wp2_with fail
      all_goals first | exact HS.out | exact ⟨rfl, HS.out⟩ | rfl
    · intro g D w' hD hW hC hI
      refine ⟨g, fun _ _ _ => rfl, ?_⟩
      with_reducible refine OpTo.plain ?_ ?_
      exact rfl
      have hS := hI.below
      have q := HX.out w' hS
      have HS := Lib.hid (hI.step (Below.refl _ _) (k := 6) (by rfl))
      clear hI hS hC hW hD
      go_wp2_with fail
      all_goals first | exact HS.out | exact ⟨rfl, HS.out⟩ | rfl
    · intro g D w' hD hW hC hI
      refine ⟨g, fun _ _ _ => rfl, ?_⟩
      with_reducible refine OpTo.plain ?_ ?_
      exact rfl
      have hS := hI.below
      have HS := Lib.hid (hI.step (Below.refl _ _) (k := 7) (by rfl))
      clear hI hS hC hW hD
      go_wp2_with fail
      all_goals first | exact HS.out | exact ⟨rfl, HS.out⟩ | rfl
    · intro g D w' hD hW hC hI
      refine ⟨g, fun _ _ _ => rfl, ?_⟩
      with_reducible refine OpTo.plain ?_ ?_
      exact rfl
      have hS := hI.below
      have HI := Lib.hid hI
      have HC := Lib.hid (HA.out w' hS)
      clear hI hS hC hW hD
      go_wp2_with fail
      refine HC.out.mono ?_
      rintro e w'' ⟨rfl, rfl⟩
      exact ⟨rfl, HI.out.step (Below.refl _ _) (by rfl)⟩
    · intro g D w' hD hW hC hI
      refine ⟨g, fun _ _ _ => rfl, ?_⟩
      with_reducible refine OpTo.plain ?_ ?_
      exact rfl
      have hS := hI.below
      have HS := Lib.hid (hI.step (Below.refl _ _) (k := 9) (by rfl))
      clear hI hS hC hW hD
      go_wp2_with fail
      all_goals first | exact HS.out | exact ⟨rfl, HS.out⟩ | rfl
    · intro g D w' hD hW hC hI
      refine ⟨g, fun _ _ _ => rfl, ?_⟩
      with_reducible refine OpTo.plain ?_ ?_
      exact rfl
      have hS := hI.below
      have HS := Lib.hid (hI.step (Below.refl _ _) (k := 10) (by rfl))
      clear hI hS hC hW hD
      go_wp2_with fail
      all_goals first | exact HS.out | exact ⟨rfl, HS.out⟩ | rfl
    · intro g D w' hD hW hC hI
      refine ⟨g, fun _ _ _ => rfl, ?_⟩
      with_reducible refine OpTo.plain ?_ ?_
      exact rfl
      have hS := hI.below
      have HS := Lib.hid (hI.step (Below.refl _ _) (k := 11) (by rfl))
      clear hI hS hC hW hD
      go_wp2_with fail
      all_goals first | exact HS.out | exact ⟨rfl, HS.out⟩ | rfl
    · intro g D w' hD hW hC hI
      refine ⟨g, fun _ _ _ => rfl, ?_⟩
      with_reducible refine OpTo.plain ?_ ?_
      exact rfl
      have hS := hI.below
      have HS := Lib.hid (hI.step (Below.refl _ _) (k := 12) (by rfl))
      clear hI hS hC hW hD
      go_wp2_with fail
      all_goals first | exact HS.out | exact ⟨rfl, HS.out⟩ | rfl
    · intro g D w' hD hW hC hI
      refine ⟨g, fun _ _ _ => rfl, ?_⟩
      with_reducible refine OpTo.plain ?_ ?_
      exact rfl
      have hS := hI.below
      have q := HY.out w' hS
      have HS := Lib.hid (hI.step (Below.refl _ _) (k := 13) (by rfl))
      clear hI hS hC hW hD
      go_wp2_with fail
      all_goals first | exact HS.out | exact ⟨rfl, HS.out⟩ | rfl
    · intro g D w' hD hW hC hI
      have hN : D 16 = false := waits_not hC hD 12 16 (by kernel_rfl)
      refine ⟨upd g 14 w'.heap.size, vals_upd _ (fun g : Nat → Nat => [(.pointer (some ⟨G, 0, none⟩)), (.map (some M)), (.int .u8 a), (.int .u8 b), (.int .u8 c), (.agg #[.int .u8 a, .int .u8 b, .int .u8 c]), (.agg #[.int .i64 x.li, .int .i64 x.db]), (.pointer (some ⟨G, 0, none⟩)), (.map (some M)), (.int .u8 b), (.int .u8 a), (.int .u8 c), (.agg #[.int .u8 b, .int .u8 a, .int .u8 c]), (.agg #[.int .i64 y.li, .int .i64 y.db]), (.pointer (some ⟨g 14, 0, none⟩)), (.pointer (some ⟨g 15, 0, none⟩)), undef, undef]) g 14 _ 12 hC hD ?_, ?_⟩
      · intro j hj
        match j, hj with
        | 0, _ => exact .inr rfl
        | 1, _ => exact .inr rfl
        | 2, _ => exact .inr rfl
        | 3, _ => exact .inr rfl
        | 4, _ => exact .inr rfl
        | 5, _ => exact .inr rfl
        | 6, _ => exact .inr rfl
        | 7, _ => exact .inr rfl
        | 8, _ => exact .inr rfl
        | 9, _ => exact .inr rfl
        | 10, _ => exact .inr rfl
        | 11, _ => exact .inr rfl
        | 12, _ => exact .inr rfl
        | 13, _ => exact .inr rfl
        | 14, _ => exact .inl (.inl rfl)
        | 15, _ => exact .inr rfl
        | 16, _ => exact .inr rfl
        | 17, _ => exact .inr rfl
        | j + 18, _ => exact .inr rfl
      with_reducible refine OpTo.plain ?_ ?_
      exact rfl
      have HS := Lib.hid (hI.lay (⟨14, 16, (.cells #[.int .i64 0, .int .i64 0] 82), (.cells #[.int .i64 x.li, .int .i64 x.db] 82)⟩ : Spec) (by simp) (by rfl) (.inr hN) (by rfl) (by intro s' hs' he; simp only [List.mem_cons, List.not_mem_nil, or_false] at hs'; rcases hs' with rfl | rfl <;> first | rfl | (simp at he)) (.cells #[.int .i64 0, .int .i64 0] 82) rfl)
      clear hI hC hW hD hN
      go_wp2_with fail
      all_goals first | exact HS.out | exact ⟨rfl, HS.out⟩ | rfl
    · intro g D w' hD hW hC hI
      have hN : D 17 = false := waits_not hC hD 12 17 (by kernel_rfl)
      refine ⟨upd g 15 w'.heap.size, vals_upd _ (fun g : Nat → Nat => [(.pointer (some ⟨G, 0, none⟩)), (.map (some M)), (.int .u8 a), (.int .u8 b), (.int .u8 c), (.agg #[.int .u8 a, .int .u8 b, .int .u8 c]), (.agg #[.int .i64 x.li, .int .i64 x.db]), (.pointer (some ⟨G, 0, none⟩)), (.map (some M)), (.int .u8 b), (.int .u8 a), (.int .u8 c), (.agg #[.int .u8 b, .int .u8 a, .int .u8 c]), (.agg #[.int .i64 y.li, .int .i64 y.db]), (.pointer (some ⟨g 14, 0, none⟩)), (.pointer (some ⟨g 15, 0, none⟩)), undef, undef]) g 15 _ 12 hC hD ?_, ?_⟩
      · intro j hj
        match j, hj with
        | 0, _ => exact .inr rfl
        | 1, _ => exact .inr rfl
        | 2, _ => exact .inr rfl
        | 3, _ => exact .inr rfl
        | 4, _ => exact .inr rfl
        | 5, _ => exact .inr rfl
        | 6, _ => exact .inr rfl
        | 7, _ => exact .inr rfl
        | 8, _ => exact .inr rfl
        | 9, _ => exact .inr rfl
        | 10, _ => exact .inr rfl
        | 11, _ => exact .inr rfl
        | 12, _ => exact .inr rfl
        | 13, _ => exact .inr rfl
        | 14, _ => exact .inr rfl
        | 15, _ => exact .inl (.inl rfl)
        | 16, _ => exact .inr rfl
        | 17, _ => exact .inr rfl
        | j + 18, _ => exact .inr rfl
      with_reducible refine OpTo.plain ?_ ?_
      exact rfl
      have HS := Lib.hid (hI.lay (⟨15, 17, (.cells #[.int .i64 0, .int .i64 0] 82), (.cells #[.int .i64 y.li, .int .i64 y.db] 82)⟩ : Spec) (by simp) (by rfl) (.inr hN) (by rfl) (by intro s' hs' he; simp only [List.mem_cons, List.not_mem_nil, or_false] at hs'; rcases hs' with rfl | rfl <;> first | rfl | (simp at he)) (.cells #[.int .i64 0, .int .i64 0] 82) rfl)
      clear hI hC hW hD hN
      go_wp2_with fail
      all_goals first | exact HS.out | exact ⟨rfl, HS.out⟩ | rfl
    · intro g D w' hD hW hC hI
      have hP : D 14 = true := waited_done hC hW (d := 12) (by kernel_rfl)
      obtain ⟨hg, hk⟩ := hI.zeroed (⟨14, 16, (.cells #[.int .i64 0, .int .i64 0] 82), (.cells #[.int .i64 x.li, .int .i64 x.db] 82)⟩ : Spec) (by simp) hP hD
      refine ⟨g, fun _ _ _ => rfl, ?_⟩
      with_reducible refine OpTo.plain ?_ ?_
      exact rfl
      refine wp_store_row 82 (.tmp 9) (.tmp 17) rfl (g 14) #[.int .i64 x.li, .int .i64 x.db] rfl rfl 82 _ hk (by kernel_rfl) rfl (by simp [Value.oneCell']) ⟨rfl, ?_⟩
      exact hI.fill (⟨14, 16, (.cells #[.int .i64 0, .int .i64 0] 82), (.cells #[.int .i64 x.li, .int .i64 x.db] 82)⟩ : Spec) (by simp) (by rfl) (show (16 : Nat) ≠ 14 by decide) (by intro s' hs' he; simp only [List.mem_cons, List.not_mem_nil, or_false] at hs'; rcases hs' with rfl | rfl <;> first | rfl | (simp at he)) hP (below_keepRow _ _) (setRow_heap w' (g 14) _ _ 82 (0, 0) hk)
    · intro g D w' hD hW hC hI
      have hP : D 15 = true := waited_done hC hW (d := 12) (by kernel_rfl)
      obtain ⟨hg, hk⟩ := hI.zeroed (⟨15, 17, (.cells #[.int .i64 0, .int .i64 0] 82), (.cells #[.int .i64 y.li, .int .i64 y.db] 82)⟩ : Spec) (by simp) hP hD
      refine ⟨g, fun _ _ _ => rfl, ?_⟩
      with_reducible refine OpTo.plain ?_ ?_
      exact rfl
      refine wp_store_row 82 (.tmp 10) (.tmp 24) rfl (g 15) #[.int .i64 y.li, .int .i64 y.db] rfl rfl 82 _ hk (by kernel_rfl) rfl (by simp [Value.oneCell']) ⟨rfl, ?_⟩
      exact hI.fill (⟨15, 17, (.cells #[.int .i64 0, .int .i64 0] 82), (.cells #[.int .i64 y.li, .int .i64 y.db] 82)⟩ : Spec) (by simp) (by rfl) (show (17 : Nat) ≠ 15 by decide) (by intro s' hs' he; simp only [List.mem_cons, List.not_mem_nil, or_false] at hs'; rcases hs' with rfl | rfl <;> first | rfl | (simp at he)) hP (below_keepRow _ _) (setRow_heap w' (g 15) _ _ 82 (0, 0) hk)
  intro g1 D w2 hall hI
  obtain ⟨hg1, hk1⟩ := hI.full (⟨14, 16, (.cells #[.int .i64 0, .int .i64 0] 82), (.cells #[.int .i64 x.li, .int .i64 x.db] 82)⟩ : Spec) (by simp) (hall 14 (by decide)) (hall 16 (by decide))
  obtain ⟨hg2, hk2⟩ := hI.full (⟨15, 17, (.cells #[.int .i64 0, .int .i64 0] 82), (.cells #[.int .i64 y.li, .int .i64 y.db] 82)⟩ : Spec) (by simp) (hall 15 (by decide)) (hall 17 (by decide))
  have B2 := Lib.hid hI.below
  have KX : Hid (Blk w2 (g1 14) #[.int .i64 x.li, .int .i64 x.db] 82) := Lib.hid hk1
  have KY : Hid (Blk w2 (g1 15) #[.int .i64 y.li, .int .i64 y.db] 82) := Lib.hid hk2
  dsimp only
  generalize g1 14 = gx at *
  generalize g1 15 = gy at *
  clear hI hall hk1 hg1 hk2 hg2 HA HX HY
  have x1 := KX.out.cell 1; have y0 := KY.out.cell 0; have y1 := KY.out.cell 1
  have lx := KX.out.lt; have ly := KY.out.lt
  simp at x1 y0 y1
  go_wp2_with fail
  go_ret
  exact ⟨by rw [← E.out]; rfl, B2.out⟩

/-- So much more is owed on a line, if it is there. -/
def oweL (ls : List Ln) (a b c n : Int) : List Ln := if (lineL ls a b c).isSome = true then setL ls ((lnAt ls a b c).owe ((lnAt ls a b c).db + n)) else ls
set_option maxHeartbeats 4000000 in
set_option maxRecDepth 100000 in
theorem owe_any {w : World} {G M : Nat} {ps : List Int} {ls : List Ln} (h : LedM w G M ps ls) (hI : Inv ls) {a b c n : Int} (ha : In8 a) (hb : In8 b) (hc : In8 c) (hn : ∀ x, lineL ls a b c = some x → 0 ≤ x.db + n ∧ x.db + n ≤ x.li) :
    Calls Try.prog 42 #[.pointer (some ⟨G, 0, none⟩), .agg #[.int .u8 a, .int .u8 b, .int .u8 c], .int .i64 n] w fun e w' => e = .returned (.tuple #[]) ∧ LedM w' G M ps (oweL ls a b c n) ∧ Keep (· = M) w w' := by
  have H := Lib.hid h
  have HL := Lib.hid (fun w' k => (h.map.looks hI ha hb hc w' k).1)
  rcases isSome_cases (lineL ls a b c) with ⟨hl, hs⟩ | ⟨x, hl, hs⟩
  · rw [lnAt_none hl, hs] at HL
    rw [show oweL ls a b c n = ls by unfold oweL; rw [hs]; rfl]
    dsimp only [noLn] at HL
    clear hl hs h hI ha hb hc hn
    go_enter Try.func42, Try.ntmps42
    go_wp2_with fail
    have B0 := Lib.hid ((Below.refl w.heap.size w).alloc (Nat.le_refl _) (.cells #[.int .u8 a, .int .u8 b, .int .u8 c] 86))
    have KE := Lib.hid (Blk.new w #[.int .u8 a, .int .u8 b, .int .u8 c] 86)
    have HW := Lib.hid (show (w.alloc (.cells #[.int .u8 a, .int .u8 b, .int .u8 c] 86)).heap.size = w.heap.size + 1 by simp)
    generalize (w.alloc (.cells #[.int .u8 a, .int .u8 b, .int .u8 c] 86)) = W at B0 KE HW ⊢
    refine region_ghost (by kernel_rfl) (fun g : Nat → Nat => [(.pointer (some ⟨G, 0, none⟩)), (.pointer (some ⟨G, 0, none⟩)), (.pointer (some ⟨G, 17, none⟩)), (.map (some M)), (.agg #[.int .u8 a, .int .u8 b, .int .u8 c]), (.tuple #[.agg #[.int .i64 0, .int .i64 0], .bool false]), (.tuple #[.agg #[.int .i64 0, .int .i64 0], .bool false]), (.agg #[.int .i64 0, .int .i64 0]), (.bool false), (.pointer (some ⟨g 9, 0, none⟩)), undef, (.bool false)])
      (Lays W [(⟨9, 10, (.cells #[.int .i64 0, .int .i64 0] 82), (.cells #[.int .i64 0, .int .i64 0] 82)⟩ : Spec)]) (by kernel_rfl) (fun _ => 0) (Lays.start _ _ _) ?_
    intro AF hAF
    simp only [List.toList_toArray, puts, Act.put, List.getD_cons_zero, List.getD_cons_succ, List.setIfInBounds_toArray, List.set_cons_succ, List.set_cons_zero] at hAF
    have hAF2 : _ = AF := funext hAF
    subst hAF2
    clear hAF
    refine ⟨?_, ?_⟩
    · simp only [List.toList_toArray, EachG]
      refine ⟨?_, ?_, ?_, ?_, ?_, ?_, ?_, ?_, ?_, ?_, ?_, ?_, trivial⟩
      · intro g D w' hD hW hC hI
        refine ⟨g, fun _ _ _ => rfl, ?_⟩
        with_reducible refine OpTo.plain ?_ ?_
        exact rfl
        have hS := hI.below
        have HS := Lib.hid (hI.step (Below.refl _ _) (k := 0) (by rfl))
        clear hI hS hC hW hD
        go_wp2_with fail
        all_goals first | exact HS.out | exact ⟨rfl, HS.out⟩ | rfl
      · intro g D w' hD hW hC hI
        refine ⟨g, fun _ _ _ => rfl, ?_⟩
        with_reducible refine OpTo.plain ?_ ?_
        exact rfl
        have hS := hI.below
        have hl := Nat.lt_of_lt_of_le H.out.blk.lt (Nat.le_trans B0.out.size hS.size)
        have d := (H.out.blk.below (B0.out.trans (hS.mono B0.out.size)) H.out.blk.lt).ledMap
        have HS := Lib.hid (hI.step (Below.refl _ _) (k := 1) (by rfl))
        clear hI hS hC hW hD
        go_wp2_with fail
        all_goals first | exact HS.out | exact ⟨rfl, HS.out⟩ | rfl
      · intro g D w' hD hW hC hI
        refine ⟨g, fun _ _ _ => rfl, ?_⟩
        with_reducible refine OpTo.plain ?_ ?_
        exact rfl
        have hS := hI.below
        have hl := Nat.lt_of_lt_of_le H.out.blk.lt (Nat.le_trans B0.out.size hS.size)
        have d := (H.out.blk.below (B0.out.trans (hS.mono B0.out.size)) H.out.blk.lt).ledMap
        have HS := Lib.hid (hI.step (Below.refl _ _) (k := 2) (by rfl))
        clear hI hS hC hW hD
        go_wp2_with fail
        all_goals first | exact HS.out | exact ⟨rfl, HS.out⟩ | rfl
      · intro g D w' hD hW hC hI
        refine ⟨g, fun _ _ _ => rfl, ?_⟩
        with_reducible refine OpTo.plain ?_ ?_
        exact rfl
        have hS := hI.below
        have hl := Nat.lt_of_lt_of_le H.out.blk.lt (Nat.le_trans B0.out.size hS.size)
        have d := (H.out.blk.below (B0.out.trans (hS.mono B0.out.size)) H.out.blk.lt).ledMap
        have HS := Lib.hid (hI.step (Below.refl _ _) (k := 3) (by rfl))
        clear hI hS hC hW hD
        go_wp2_with fail
        all_goals first | exact HS.out | exact ⟨rfl, HS.out⟩ | rfl
      · intro g D w' hD hW hC hI
        refine ⟨g, fun _ _ _ => rfl, ?_⟩
        with_reducible refine OpTo.plain ?_ ?_
        exact rfl
        have hS := hI.below
        have hl0 := Nat.lt_of_lt_of_le KE.out.lt hS.size
        have d0_0 := (KE.out.below hS KE.out.lt).cell 0
        have d0_1 := (KE.out.below hS KE.out.lt).cell 1
        have d0_2 := (KE.out.below hS KE.out.lt).cell 2
        simp at d0_0 d0_1 d0_2
        have HS := Lib.hid (hI.step (Below.refl _ _) (k := 4) (by rfl))
        clear hI hS hC hW hD
        go_wp2_with fail
        all_goals first | exact HS.out | exact ⟨rfl, HS.out⟩ | rfl
      · intro g D w' hD hW hC hI
        refine ⟨g, fun _ _ _ => rfl, ?_⟩
        with_reducible refine OpTo.plain ?_ ?_
        exact rfl
        have hS := hI.below
        have q := HL.out w' (B0.out.trans (hS.mono B0.out.size))
        have HS := Lib.hid (hI.step (Below.refl _ _) (k := 5) (by rfl))
        clear hI hS hC hW hD
        go_wp2_with fail
        all_goals first | exact HS.out | exact ⟨rfl, HS.out⟩ | rfl
      · intro g D w' hD hW hC hI
        refine ⟨g, fun _ _ _ => rfl, ?_⟩
        with_reducible refine OpTo.plain ?_ ?_
        exact rfl
        have hS := hI.below
        have HS := Lib.hid (hI.step (Below.refl _ _) (k := 6) (by rfl))
        clear hI hS hC hW hD
        go_wp2_with fail
        all_goals first | exact HS.out | exact ⟨rfl, HS.out⟩ | rfl
      · intro g D w' hD hW hC hI
        refine ⟨g, fun _ _ _ => rfl, ?_⟩
        with_reducible refine OpTo.plain ?_ ?_
        exact rfl
        have hS := hI.below
        have HS := Lib.hid (hI.step (Below.refl _ _) (k := 7) (by rfl))
        clear hI hS hC hW hD
        go_wp2_with fail
        all_goals first | exact HS.out | exact ⟨rfl, HS.out⟩ | rfl
      · intro g D w' hD hW hC hI
        refine ⟨g, fun _ _ _ => rfl, ?_⟩
        with_reducible refine OpTo.plain ?_ ?_
        exact rfl
        have hS := hI.below
        have HS := Lib.hid (hI.step (Below.refl _ _) (k := 8) (by rfl))
        clear hI hS hC hW hD
        go_wp2_with fail
        all_goals first | exact HS.out | exact ⟨rfl, HS.out⟩ | rfl
      · intro g D w' hD hW hC hI
        have hN : D 10 = false := waits_not hC hD 12 10 (by kernel_rfl)
        refine ⟨upd g 9 w'.heap.size, vals_upd _ (fun g : Nat → Nat => [(.pointer (some ⟨G, 0, none⟩)), (.pointer (some ⟨G, 0, none⟩)), (.pointer (some ⟨G, 17, none⟩)), (.map (some M)), (.agg #[.int .u8 a, .int .u8 b, .int .u8 c]), (.tuple #[.agg #[.int .i64 0, .int .i64 0], .bool false]), (.tuple #[.agg #[.int .i64 0, .int .i64 0], .bool false]), (.agg #[.int .i64 0, .int .i64 0]), (.bool false), (.pointer (some ⟨g 9, 0, none⟩)), undef, (.bool false)]) g 9 _ 12 hC hD ?_, ?_⟩
        · intro j hj
          match j, hj with
          | 0, _ => exact .inr rfl
          | 1, _ => exact .inr rfl
          | 2, _ => exact .inr rfl
          | 3, _ => exact .inr rfl
          | 4, _ => exact .inr rfl
          | 5, _ => exact .inr rfl
          | 6, _ => exact .inr rfl
          | 7, _ => exact .inr rfl
          | 8, _ => exact .inr rfl
          | 9, _ => exact .inl (.inl rfl)
          | 10, _ => exact .inr rfl
          | 11, _ => exact .inr rfl
          | j + 12, _ => exact .inr rfl
        with_reducible refine OpTo.plain ?_ ?_
        exact rfl
        have HS := Lib.hid (hI.lay (⟨9, 10, (.cells #[.int .i64 0, .int .i64 0] 82), (.cells #[.int .i64 0, .int .i64 0] 82)⟩ : Spec) (by simp) (by rfl) (.inr hN) (by rfl) (fun s' hs' _ => List.mem_singleton.1 hs') (.cells #[.int .i64 0, .int .i64 0] 82) rfl)
        clear hI hC hW hD hN
        go_wp2_with fail
        all_goals first | exact HS.out | exact ⟨rfl, HS.out⟩ | rfl
      · intro g D w' hD hW hC hI
        have hP : D 9 = true := waited_done hC hW (d := 12) (by kernel_rfl)
        obtain ⟨hg, hk⟩ := hI.zeroed (⟨9, 10, (.cells #[.int .i64 0, .int .i64 0] 82), (.cells #[.int .i64 0, .int .i64 0] 82)⟩ : Spec) (by simp) hP hD
        refine ⟨g, fun _ _ _ => rfl, ?_⟩
        with_reducible refine OpTo.plain ?_ ?_
        exact rfl
        refine wp_store_row 82 (.tmp 6) (.tmp 15) rfl (g 9) #[.int .i64 0, .int .i64 0] rfl rfl 82 _ hk (by kernel_rfl) rfl (by simp [Value.oneCell']) ⟨rfl, ?_⟩
        exact hI.fill (⟨9, 10, (.cells #[.int .i64 0, .int .i64 0] 82), (.cells #[.int .i64 0, .int .i64 0] 82)⟩ : Spec) (by simp) (by rfl) (show (10 : Nat) ≠ 9 by decide) (fun s' hs' _ => List.mem_singleton.1 hs') hP (below_keepRow _ _) (setRow_heap w' (g 9) _ _ 82 (0, 0) hk)
      · intro g D w' hD hW hC hI
        refine ⟨g, fun _ _ _ => rfl, ?_⟩
        with_reducible refine OpTo.plain ?_ ?_
        exact rfl
        have hS := hI.below
        have HS := Lib.hid (hI.step (Below.refl _ _) (k := 11) (by rfl))
        clear hI hS hC hW hD
        go_wp2_with fail
        all_goals first | exact HS.out | exact ⟨rfl, HS.out⟩ | rfl
    intro g1 D w2 hall hI
    obtain ⟨hg1, hk1⟩ := hI.full (⟨9, 10, (.cells #[.int .i64 0, .int .i64 0] 82), (.cells #[.int .i64 0, .int .i64 0] 82)⟩ : Spec) (by simp) (hall 9 (by decide)) (hall 10 (by decide))
    rw [HW.out] at hg1
    have B2 := Lib.hid (B0.out.trans (hI.below.mono B0.out.size))
    have KE2 := Lib.hid (KE.out.below hI.below KE.out.lt)
    have KA2 : Hid (Blk w2 (g1 9) #[.int .i64 0, .int .i64 0] 82) := Lib.hid hk1
    dsimp only
    generalize g1 9 = ga at *
    clear hI hall hk1 KE B0 HL
    go_wp2_with fail
    go_end0
    exact ⟨rfl, H.out.below B2.out, Keep.of_below B2.out⟩
  · rw [lnAt_some hl, hs] at HL
    rw [show oweL ls a b c n = setL ls (x.owe (x.db + n)) by unfold oweL; rw [hs, lnAt_some hl]; rfl]
    obtain ⟨n0, n1⟩ := hn x hl
    obtain ⟨hm, rfl, rfl, rfl⟩ := lineL_mem hl
    have hg := hI.good x hm
    have hf := hg.fits
    have hx0 : (x.owe (x.db + n)).li ≠ 0 := by have := hg.li; show x.li ≠ 0; omega
    have hli := hg.li
    have HN : Hid (In64 (x.db + n)) := Lib.hid ⟨by omega, by omega⟩
    have b0 : -9223372036854775808 ≤ x.db + n := HN.out.1
    have b1 : x.db + n ≤ 9223372036854775807 := HN.out.2
    clear hl hs h ha hb hc hn hm hg hli
    go_enter Try.func42, Try.ntmps42
    go_wp2_with fail
    have B0 := Lib.hid ((Below.refl w.heap.size w).alloc (Nat.le_refl _) (.cells #[.int .u8 x.cr, .int .u8 x.de, .int .u8 x.cu] 86))
    have KE := Lib.hid (Blk.new w #[.int .u8 x.cr, .int .u8 x.de, .int .u8 x.cu] 86)
    have HW := Lib.hid (show (w.alloc (.cells #[.int .u8 x.cr, .int .u8 x.de, .int .u8 x.cu] 86)).heap.size = w.heap.size + 1 by simp)
    generalize (w.alloc (.cells #[.int .u8 x.cr, .int .u8 x.de, .int .u8 x.cu] 86)) = W at B0 KE HW ⊢
    refine region_ghost (by kernel_rfl) (fun g : Nat → Nat => [(.pointer (some ⟨G, 0, none⟩)), (.pointer (some ⟨G, 0, none⟩)), (.pointer (some ⟨G, 17, none⟩)), (.map (some M)), (.agg #[.int .u8 x.cr, .int .u8 x.de, .int .u8 x.cu]), (.tuple #[.agg #[.int .i64 x.li, .int .i64 x.db], .bool true]), (.tuple #[.agg #[.int .i64 x.li, .int .i64 x.db], .bool true]), (.agg #[.int .i64 x.li, .int .i64 x.db]), (.bool true), (.pointer (some ⟨g 9, 0, none⟩)), undef, (.bool true)])
      (Lays W [(⟨9, 10, (.cells #[.int .i64 0, .int .i64 0] 82), (.cells #[.int .i64 x.li, .int .i64 x.db] 82)⟩ : Spec)]) (by kernel_rfl) (fun _ => 0) (Lays.start _ _ _) ?_
    intro AF hAF
    simp only [List.toList_toArray, puts, Act.put, List.getD_cons_zero, List.getD_cons_succ, List.setIfInBounds_toArray, List.set_cons_succ, List.set_cons_zero] at hAF
    have hAF2 : _ = AF := funext hAF
    subst hAF2
    clear hAF
    refine ⟨?_, ?_⟩
    · simp only [List.toList_toArray, EachG]
      refine ⟨?_, ?_, ?_, ?_, ?_, ?_, ?_, ?_, ?_, ?_, ?_, ?_, trivial⟩
      · intro g D w' hD hW hC hI
        refine ⟨g, fun _ _ _ => rfl, ?_⟩
        with_reducible refine OpTo.plain ?_ ?_
        exact rfl
        have hS := hI.below
        have HS := Lib.hid (hI.step (Below.refl _ _) (k := 0) (by rfl))
        clear hI hS hC hW hD
        go_wp2_with fail
        all_goals first | exact HS.out | exact ⟨rfl, HS.out⟩ | rfl
      · intro g D w' hD hW hC hI
        refine ⟨g, fun _ _ _ => rfl, ?_⟩
        with_reducible refine OpTo.plain ?_ ?_
        exact rfl
        have hS := hI.below
        have hl := Nat.lt_of_lt_of_le H.out.blk.lt (Nat.le_trans B0.out.size hS.size)
        have d := (H.out.blk.below (B0.out.trans (hS.mono B0.out.size)) H.out.blk.lt).ledMap
        have HS := Lib.hid (hI.step (Below.refl _ _) (k := 1) (by rfl))
        clear hI hS hC hW hD
        go_wp2_with fail
        all_goals first | exact HS.out | exact ⟨rfl, HS.out⟩ | rfl
      · intro g D w' hD hW hC hI
        refine ⟨g, fun _ _ _ => rfl, ?_⟩
        with_reducible refine OpTo.plain ?_ ?_
        exact rfl
        have hS := hI.below
        have hl := Nat.lt_of_lt_of_le H.out.blk.lt (Nat.le_trans B0.out.size hS.size)
        have d := (H.out.blk.below (B0.out.trans (hS.mono B0.out.size)) H.out.blk.lt).ledMap
        have HS := Lib.hid (hI.step (Below.refl _ _) (k := 2) (by rfl))
        clear hI hS hC hW hD
        go_wp2_with fail
        all_goals first | exact HS.out | exact ⟨rfl, HS.out⟩ | rfl
      · intro g D w' hD hW hC hI
        refine ⟨g, fun _ _ _ => rfl, ?_⟩
        with_reducible refine OpTo.plain ?_ ?_
        exact rfl
        have hS := hI.below
        have hl := Nat.lt_of_lt_of_le H.out.blk.lt (Nat.le_trans B0.out.size hS.size)
        have d := (H.out.blk.below (B0.out.trans (hS.mono B0.out.size)) H.out.blk.lt).ledMap
        have HS := Lib.hid (hI.step (Below.refl _ _) (k := 3) (by rfl))
        clear hI hS hC hW hD
        go_wp2_with fail
        all_goals first | exact HS.out | exact ⟨rfl, HS.out⟩ | rfl
      · intro g D w' hD hW hC hI
        refine ⟨g, fun _ _ _ => rfl, ?_⟩
        with_reducible refine OpTo.plain ?_ ?_
        exact rfl
        have hS := hI.below
        have hl0 := Nat.lt_of_lt_of_le KE.out.lt hS.size
        have d0_0 := (KE.out.below hS KE.out.lt).cell 0
        have d0_1 := (KE.out.below hS KE.out.lt).cell 1
        have d0_2 := (KE.out.below hS KE.out.lt).cell 2
        simp at d0_0 d0_1 d0_2
        have HS := Lib.hid (hI.step (Below.refl _ _) (k := 4) (by rfl))
        clear hI hS hC hW hD
        go_wp2_with fail
        all_goals first | exact HS.out | exact ⟨rfl, HS.out⟩ | rfl
      · intro g D w' hD hW hC hI
        refine ⟨g, fun _ _ _ => rfl, ?_⟩
        with_reducible refine OpTo.plain ?_ ?_
        exact rfl
        have hS := hI.below
        have q := HL.out w' (B0.out.trans (hS.mono B0.out.size))
        have HS := Lib.hid (hI.step (Below.refl _ _) (k := 5) (by rfl))
        clear hI hS hC hW hD
        go_wp2_with fail
        all_goals first | exact HS.out | exact ⟨rfl, HS.out⟩ | rfl
      · intro g D w' hD hW hC hI
        refine ⟨g, fun _ _ _ => rfl, ?_⟩
        with_reducible refine OpTo.plain ?_ ?_
        exact rfl
        have hS := hI.below
        have HS := Lib.hid (hI.step (Below.refl _ _) (k := 6) (by rfl))
        clear hI hS hC hW hD
        go_wp2_with fail
        all_goals first | exact HS.out | exact ⟨rfl, HS.out⟩ | rfl
      · intro g D w' hD hW hC hI
        refine ⟨g, fun _ _ _ => rfl, ?_⟩
        with_reducible refine OpTo.plain ?_ ?_
        exact rfl
        have hS := hI.below
        have HS := Lib.hid (hI.step (Below.refl _ _) (k := 7) (by rfl))
        clear hI hS hC hW hD
        go_wp2_with fail
        all_goals first | exact HS.out | exact ⟨rfl, HS.out⟩ | rfl
      · intro g D w' hD hW hC hI
        refine ⟨g, fun _ _ _ => rfl, ?_⟩
        with_reducible refine OpTo.plain ?_ ?_
        exact rfl
        have hS := hI.below
        have HS := Lib.hid (hI.step (Below.refl _ _) (k := 8) (by rfl))
        clear hI hS hC hW hD
        go_wp2_with fail
        all_goals first | exact HS.out | exact ⟨rfl, HS.out⟩ | rfl
      · intro g D w' hD hW hC hI
        have hN : D 10 = false := waits_not hC hD 12 10 (by kernel_rfl)
        refine ⟨upd g 9 w'.heap.size, vals_upd _ (fun g : Nat → Nat => [(.pointer (some ⟨G, 0, none⟩)), (.pointer (some ⟨G, 0, none⟩)), (.pointer (some ⟨G, 17, none⟩)), (.map (some M)), (.agg #[.int .u8 x.cr, .int .u8 x.de, .int .u8 x.cu]), (.tuple #[.agg #[.int .i64 x.li, .int .i64 x.db], .bool true]), (.tuple #[.agg #[.int .i64 x.li, .int .i64 x.db], .bool true]), (.agg #[.int .i64 x.li, .int .i64 x.db]), (.bool true), (.pointer (some ⟨g 9, 0, none⟩)), undef, (.bool true)]) g 9 _ 12 hC hD ?_, ?_⟩
        · intro j hj
          match j, hj with
          | 0, _ => exact .inr rfl
          | 1, _ => exact .inr rfl
          | 2, _ => exact .inr rfl
          | 3, _ => exact .inr rfl
          | 4, _ => exact .inr rfl
          | 5, _ => exact .inr rfl
          | 6, _ => exact .inr rfl
          | 7, _ => exact .inr rfl
          | 8, _ => exact .inr rfl
          | 9, _ => exact .inl (.inl rfl)
          | 10, _ => exact .inr rfl
          | 11, _ => exact .inr rfl
          | j + 12, _ => exact .inr rfl
        with_reducible refine OpTo.plain ?_ ?_
        exact rfl
        have HS := Lib.hid (hI.lay (⟨9, 10, (.cells #[.int .i64 0, .int .i64 0] 82), (.cells #[.int .i64 x.li, .int .i64 x.db] 82)⟩ : Spec) (by simp) (by rfl) (.inr hN) (by rfl) (fun s' hs' _ => List.mem_singleton.1 hs') (.cells #[.int .i64 0, .int .i64 0] 82) rfl)
        clear hI hC hW hD hN
        go_wp2_with fail
        all_goals first | exact HS.out | exact ⟨rfl, HS.out⟩ | rfl
      · intro g D w' hD hW hC hI
        have hP : D 9 = true := waited_done hC hW (d := 12) (by kernel_rfl)
        obtain ⟨hg, hk⟩ := hI.zeroed (⟨9, 10, (.cells #[.int .i64 0, .int .i64 0] 82), (.cells #[.int .i64 x.li, .int .i64 x.db] 82)⟩ : Spec) (by simp) hP hD
        refine ⟨g, fun _ _ _ => rfl, ?_⟩
        with_reducible refine OpTo.plain ?_ ?_
        exact rfl
        refine wp_store_row 82 (.tmp 6) (.tmp 15) rfl (g 9) #[.int .i64 x.li, .int .i64 x.db] rfl rfl 82 _ hk (by kernel_rfl) rfl (by simp [Value.oneCell']) ⟨rfl, ?_⟩
        exact hI.fill (⟨9, 10, (.cells #[.int .i64 0, .int .i64 0] 82), (.cells #[.int .i64 x.li, .int .i64 x.db] 82)⟩ : Spec) (by simp) (by rfl) (show (10 : Nat) ≠ 9 by decide) (fun s' hs' _ => List.mem_singleton.1 hs') hP (below_keepRow _ _) (setRow_heap w' (g 9) _ _ 82 (0, 0) hk)
      · intro g D w' hD hW hC hI
        refine ⟨g, fun _ _ _ => rfl, ?_⟩
        with_reducible refine OpTo.plain ?_ ?_
        exact rfl
        have hS := hI.below
        have HS := Lib.hid (hI.step (Below.refl _ _) (k := 11) (by rfl))
        clear hI hS hC hW hD
        go_wp2_with fail
        all_goals first | exact HS.out | exact ⟨rfl, HS.out⟩ | rfl
    intro g1 D w2 hall hI
    obtain ⟨hg1, hk1⟩ := hI.full (⟨9, 10, (.cells #[.int .i64 0, .int .i64 0] 82), (.cells #[.int .i64 x.li, .int .i64 x.db] 82)⟩ : Spec) (by simp) (hall 9 (by decide)) (hall 10 (by decide))
    rw [HW.out] at hg1
    have B2 := Lib.hid (B0.out.trans (hI.below.mono B0.out.size))
    have KE2 := Lib.hid (KE.out.below hI.below KE.out.lt)
    have KA2 : Hid (Blk w2 (g1 9) #[.int .i64 x.li, .int .i64 x.db] 82) := Lib.hid hk1
    dsimp only
    generalize g1 9 = ga at *
    clear hI hall hk1 KE B0 HL
    have a1 := KA2.out.cell 1; have f1 := KA2.out.frozen 1
    have la := KA2.out.lt
    simp at a1
    have B3 := Lib.hid (B2.out.setCell (p := ⟨ga, 1, none⟩) (by show _ ≤ ga; omega) (.int .i64 (x.db + n)))
    have KE3 := Lib.hid (KE2.out.setOther (a := ⟨ga, 1, none⟩) (by show _ ≠ ga; omega) (.int .i64 (x.db + n)))
    have KA3 : Hid (Blk (w2.setCell ⟨ga, 1, none⟩ (.int .i64 (x.db + n))) ga #[.int .i64 x.li, .int .i64 (x.db + n)] 82) := Lib.hid (KA2.out.set 1 (.int .i64 (x.db + n)))
    clear hg1
    go_wp2_with fail
    generalize w2.setCell ⟨ga, 1, none⟩ (.int .i64 (x.db + n)) = W3 at B3 KE3 KA3 ⊢
    clear KE2 KA2 B2 a1 f1 la HW
    have H3 := Lib.hid (H.out.below B3.out)
    refine region_end (by kernel_rfl) 6 12 [(.pointer (some ⟨G, 0, none⟩)), (.pointer (some ⟨G, 0, none⟩)), (.pointer (some ⟨G, 17, none⟩)), (.map (some M)), (.agg #[.int .u8 x.cr, .int .u8 x.de, .int .u8 x.cu]), (.agg #[.int .i64 x.li, .int .i64 (x.db + n)]), undef]
      (fun w' => Below W3.heap.size W3 w') (by kernel_rfl) rfl (by kernel_rfl) (Below.refl _ _).drew ?_
    intro af haf
    simp only [List.toList_toArray, puts, Act.put, List.getD_cons_zero, List.getD_cons_succ, List.setIfInBounds_toArray, List.set_cons_succ, List.set_cons_zero] at haf
    subst haf
    refine ⟨?_, ?_⟩
    · simp only [List.toList_toArray, List.take_succ_cons, List.take_zero, EachTo]
      refine ⟨?_, ?_, ?_, ?_, ?_, ?_, trivial⟩
      · intro w' hS
        refine OpTo.plain ?_ ?_
        exact rfl
        have HS := Lib.hid hS
        clear hS
        go_wp2_with fail
        all_goals first | exact HS.out | exact ⟨rfl, HS.out⟩ | rfl
      · intro w' hS
        refine OpTo.plain ?_ ?_
        exact rfl
        have hl := Nat.lt_of_lt_of_le H3.out.blk.lt hS.size
        have d := (H3.out.blk.below hS H3.out.blk.lt).ledMap
        have HS := Lib.hid hS
        clear hS
        go_wp2_with fail
        all_goals first | exact HS.out | exact ⟨rfl, HS.out⟩ | rfl
      · intro w' hS
        refine OpTo.plain ?_ ?_
        exact rfl
        have hl := Nat.lt_of_lt_of_le H3.out.blk.lt hS.size
        have d := (H3.out.blk.below hS H3.out.blk.lt).ledMap
        have HS := Lib.hid hS
        clear hS
        go_wp2_with fail
        all_goals first | exact HS.out | exact ⟨rfl, HS.out⟩ | rfl
      · intro w' hS
        refine OpTo.plain ?_ ?_
        exact rfl
        have hl := Nat.lt_of_lt_of_le H3.out.blk.lt hS.size
        have d := (H3.out.blk.below hS H3.out.blk.lt).ledMap
        have HS := Lib.hid hS
        clear hS
        go_wp2_with fail
        all_goals first | exact HS.out | exact ⟨rfl, HS.out⟩ | rfl
      · intro w' hS
        refine OpTo.plain ?_ ?_
        exact rfl
        have hl0 := Nat.lt_of_lt_of_le KE3.out.lt hS.size
        have d0_0 := (KE3.out.below hS KE3.out.lt).cell 0
        have d0_1 := (KE3.out.below hS KE3.out.lt).cell 1
        have d0_2 := (KE3.out.below hS KE3.out.lt).cell 2
        simp at d0_0 d0_1 d0_2
        have HS := Lib.hid hS
        clear hS
        go_wp2_with fail
        all_goals first | exact HS.out | exact ⟨rfl, HS.out⟩ | rfl
      · intro w' hS
        refine OpTo.plain ?_ ?_
        exact rfl
        have hl0 := Nat.lt_of_lt_of_le KA3.out.lt hS.size
        have d0_0 := (KA3.out.below hS KA3.out.lt).cell 0
        have d0_1 := (KA3.out.below hS KA3.out.lt).cell 1
        simp at d0_0 d0_1
        have HS := Lib.hid hS
        clear hS
        go_wp2_with fail
        all_goals first | exact HS.out | exact ⟨rfl, HS.out⟩ | rfl
    simp only [List.getD_cons_succ, List.getD_cons_zero]
    intro w' hS
    with_reducible refine OpTo.plain ?_ ?_
    exact rfl
    obtain ⟨w4, hr, hm4, ht4⟩ := (H3.out.map.below hS H3.out.map.lt).store hI (x := x.owe (x.db + n)) ⟨hf.cr, hf.de, hf.cu, hf.li, HN.out⟩ hx0
    refine wp_mapUpdate_of 83 (.tmp 26) (.tmp 27) (.tmp 28) rfl rfl rfl rfl hr ⟨rfl, ?_⟩
    have HE := Lib.hid (show LedM w4 G M ps (setL ls (x.owe (x.db + n))) ∧ Keep (· = M) w w4 from by
      have hk4 := ht4.keep
      exact ⟨⟨((H3.out.blk.below hS H3.out.blk.lt)).keep hk4 (fun e => H.out.ne e.symm), hm4⟩, (Keep.of_below (B3.out.trans (hS.mono B3.out.size))).trans hk4⟩)
    clear hr hm4 ht4 hS
    go_wp2_with fail
    go_end0
    exact ⟨rfl, HE.out.1, HE.out.2⟩

end Go.Proofs.Ytdpkcamhafkkbaa
