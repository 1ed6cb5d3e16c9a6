/-
  The program's ledgers: Line.
-/
import Derived.Test.YtlcilpeljnoclaaPLed
import Derived.Test.YtlcilpeljnoclaaRef03h
namespace Go.Proofs.Ytlcilpeljnoclaa
open Go.RowKit
set_option linter.unusedSimpArgs false
set_option linter.unusedVariables false

/-- A store of a whole block, in the walk. -/
theorem wpList_store_row {P : Program} {ops : Array Oper} {rest : List Oper} {o : Oper} {a : Act} {w : World} {Q : Exit → Act → World → Prop} (hgd : o.guard = none) (ty : TypeId) (x y : Operand) (ho : o.op = .store ty x y)
    (g : Nat) (cells : Array Value) (hx : a.eval x = .pointer (some ⟨g, 0, none⟩)) (hy : a.eval y = .agg cells)
    (t : TypeId) (old : Array Value) (hg : w.heap[g]? = some (.cells old t (0, 0))) (hi : (P.info? ty).map (·.size) = some cells.size)
    (hold : old.size = cells.size) (h1 : cells.all (·.oneCell') = true)
    (h : wpList P ops Q rest (a.put o.dst undef) (w.setRow g cells)) : wpList P ops Q (o :: rest) a w :=
  wpList_plain hgd fun _ hK => wp_store_row ty x y ho g cells hx hy t old hg hi hold h1 (hK _ _ h)
theorem MapIs.looks {w : World} {m : Nat} {ls : List Ln} (h : MapIs w m ls) (hI : Inv ls) {a b c : Int} (ha : In8 a) (hb : In8 b) (hc : In8 c) : ∀ w', Below w.heap.size w w' →
    (Instr.lookup 63 (.map (some m)) (.agg #[.int .u8 a, .int .u8 b, .int .u8 c]) true).run Try.prog w' = .ok (.tuple #[.agg #[.int .i64 (lnAt ls a b c).li, .int .i64 (lnAt ls a b c).db], .bool (lineL ls a b c).isSome]) w' ∧
    (Instr.lookup 63 (.map (some m)) (.agg #[.int .u8 a, .int .u8 b, .int .u8 c]) false).run Try.prog w' = .ok (.agg #[.int .i64 (lnAt ls a b c).li, .int .i64 (lnAt ls a b c).db]) w' :=
  fun w' k => (h.below k h.lt).look hI ha hb hc
theorem LedM.alls {w : World} {G M : Nat} {ps : List Int} {ls : List Ln} (h : LedM w G M ps ls) : ∀ w', Below w.heap.size w w' → Calls Try.prog 50 #[.pointer (some ⟨G, 0, none⟩)] w' fun e w'' => e = .returned (.map (some M)) ∧ w' = w'' :=
  fun w' k => all_any (h.blk.below k h.blk.lt)
theorem isSome_cases (o : Option Ln) : (o = none ∧ o.isSome = false) ∨ (∃ x, o = some x ∧ o.isSome = true) := by cases o <;> simp

set_option maxHeartbeats 4000000 in
set_option maxRecDepth 100000 in
theorem gline_any {w : World} {G M : Nat} {ps : List Int} {ls : List Ln} (h : LedM w G M ps ls) (hI : Inv ls) {a b c : Int} (ha : In8 a) (hb : In8 b) (hc : In8 c) :
    Calls Try.prog 16 #[.pointer (some ⟨G, 0, none⟩), .int .u8 a, .int .u8 b, .int .u8 c] w fun e w' => e = .returned (lineV (lineL ls a b c)) ∧ Below w.heap.size w w' := by
  have HA := Lib.hid h.alls
  have HL := Lib.hid (fun w' k => (h.map.looks hI ha hb hc w' k).1)
  rcases isSome_cases (lineL ls a b c) with ⟨hl, hs⟩ | ⟨x, hl, hs⟩
  · rw [lnAt_none hl, hs] at HL
    rw [hl]
    dsimp only [noLn] at HL
    clear hl hs h hI ha hb hc
    go_enter Try.func16, Try.ntmps16
    go_wp2_with fail
    have B0 := Lib.hid (((Below.refl w.heap.size w).alloc (Nat.le_refl _) (.cells #[.int .u8 0, .int .u8 0, .int .u8 0, .int .i64 0, .int .i64 0] 35)).alloc (by simp) (.cells #[.int .u8 a, .int .u8 b, .int .u8 c] 77))
    have KZ := Lib.hid ((Blk.new w #[.int .u8 0, .int .u8 0, .int .u8 0, .int .i64 0, .int .i64 0] 35).alloc (.cells #[.int .u8 a, .int .u8 b, .int .u8 c] 77))
    have KE := Lib.hid (Blk.newAt (w.alloc (.cells #[.int .u8 0, .int .u8 0, .int .u8 0, .int .i64 0, .int .i64 0] 35)) #[.int .u8 a, .int .u8 b, .int .u8 c] 77 (g := w.heap.size + 1) (by simp))
    generalize ((w.alloc (.cells #[.int .u8 0, .int .u8 0, .int .u8 0, .int .i64 0, .int .i64 0] 35)).alloc (.cells #[.int .u8 a, .int .u8 b, .int .u8 c] 77)) = W at B0 KZ KE ⊢
    refine region_ghost (by kernel_rfl) (fun g : Nat → Nat => [(.pointer (some ⟨G, 0, none⟩)), (.map (some M)), (.agg #[.int .u8 a, .int .u8 b, .int .u8 c]), (.tuple #[.agg #[.int .i64 0, .int .i64 0], .bool false]), (.tuple #[.agg #[.int .i64 0, .int .i64 0], .bool false]), (.agg #[.int .i64 0, .int .i64 0]), (.bool false), (.pointer (some ⟨g 7, 0, none⟩)), undef, (.bool false)])
      (Lays W [(⟨7, 8, (.cells #[.int .i64 0, .int .i64 0] 79), (.cells #[.int .i64 0, .int .i64 0] 79)⟩ : Spec)]) (by kernel_rfl) (fun _ => 0) (Lays.start _ _ _) ?_
    intro AF hAF
    simp only [List.toList_toArray, puts, Act.put, List.getD_cons_zero, List.getD_cons_succ, List.setIfInBounds_toArray, List.set_cons_succ, List.set_cons_zero] at hAF
    have hAF2 : _ = AF := funext hAF
    subst hAF2
    clear hAF
    refine ⟨?_, ?_⟩
    · simp only [List.toList_toArray, EachG]
      refine ⟨?_, ?_, ?_, ?_, ?_, ?_, ?_, ?_, ?_, ?_, trivial⟩
      · intro g D w' hD hW hC hI
        refine ⟨g, fun _ _ _ => rfl, ?_⟩
        with_reducible refine OpTo.plain ?_ ?_
        exact rfl
        have hS := hI.below
        have HS := Lib.hid (hI.step (Below.refl _ _) (k := 0) (by rfl))
        clear hI hS hC hW hD
        go_wp2_with fail
        all_goals first | exact HS.out | exact ⟨rfl, HS.out⟩ | rfl
      · intro g D w' hD hW hC hI
        refine ⟨g, fun _ _ _ => rfl, ?_⟩
        with_reducible refine OpTo.plain ?_ ?_
        exact rfl
        have hS := hI.below
        have HI := Lib.hid hI
        have HC := Lib.hid (HA.out w' (B0.out.trans (hS.mono B0.out.size)))
        clear hI hS hC hW hD
        go_wp2_with fail
        refine HC.out.mono ?_
        rintro e w'' ⟨rfl, rfl⟩
        exact ⟨rfl, HI.out.step (Below.refl _ _) (by rfl)⟩
      · intro g D w' hD hW hC hI
        refine ⟨g, fun _ _ _ => rfl, ?_⟩
        with_reducible refine OpTo.plain ?_ ?_
        exact rfl
        have hS := hI.below
        have hl0 := Nat.lt_of_lt_of_le KE.out.lt hS.size
        have d0_0 := (KE.out.below hS KE.out.lt).cell 0
        have d0_1 := (KE.out.below hS KE.out.lt).cell 1
        have d0_2 := (KE.out.below hS KE.out.lt).cell 2
        simp at d0_0 d0_1 d0_2
        have HS := Lib.hid (hI.step (Below.refl _ _) (k := 2) (by rfl))
        clear hI hS hC hW hD
        go_wp2_with fail
        all_goals first | exact HS.out | exact ⟨rfl, HS.out⟩ | rfl
      · intro g D w' hD hW hC hI
        refine ⟨g, fun _ _ _ => rfl, ?_⟩
        with_reducible refine OpTo.plain ?_ ?_
        exact rfl
        have hS := hI.below
        have q := HL.out w' (B0.out.trans (hS.mono B0.out.size))
        have HS := Lib.hid (hI.step (Below.refl _ _) (k := 3) (by rfl))
        clear hI hS hC hW hD
        go_wp2_with fail
        all_goals first | exact HS.out | exact ⟨rfl, HS.out⟩ | rfl
      · intro g D w' hD hW hC hI
        refine ⟨g, fun _ _ _ => rfl, ?_⟩
        with_reducible refine OpTo.plain ?_ ?_
        exact rfl
        have hS := hI.below
        have HS := Lib.hid (hI.step (Below.refl _ _) (k := 4) (by rfl))
        clear hI hS hC hW hD
        go_wp2_with fail
        all_goals first | exact HS.out | exact ⟨rfl, HS.out⟩ | rfl
      · intro g D w' hD hW hC hI
        refine ⟨g, fun _ _ _ => rfl, ?_⟩
        with_reducible refine OpTo.plain ?_ ?_
        exact rfl
        have hS := hI.below
        have HS := Lib.hid (hI.step (Below.refl _ _) (k := 5) (by rfl))
        clear hI hS hC hW hD
        go_wp2_with fail
        all_goals first | exact HS.out | exact ⟨rfl, HS.out⟩ | rfl
      · intro g D w' hD hW hC hI
        refine ⟨g, fun _ _ _ => rfl, ?_⟩
        with_reducible refine OpTo.plain ?_ ?_
        exact rfl
        have hS := hI.below
        have HS := Lib.hid (hI.step (Below.refl _ _) (k := 6) (by rfl))
        clear hI hS hC hW hD
        go_wp2_with fail
        all_goals first | exact HS.out | exact ⟨rfl, HS.out⟩ | rfl
      · intro g D w' hD hW hC hI
        have hN : D 8 = false := waits_not hC hD 12 8 (by kernel_rfl)
        refine ⟨upd g 7 w'.heap.size, vals_upd _ (fun g : Nat → Nat => [(.pointer (some ⟨G, 0, none⟩)), (.map (some M)), (.agg #[.int .u8 a, .int .u8 b, .int .u8 c]), (.tuple #[.agg #[.int .i64 0, .int .i64 0], .bool false]), (.tuple #[.agg #[.int .i64 0, .int .i64 0], .bool false]), (.agg #[.int .i64 0, .int .i64 0]), (.bool false), (.pointer (some ⟨g 7, 0, none⟩)), undef, (.bool false)]) g 7 _ 12 hC hD ?_, ?_⟩
        · intro j hj
          match j, hj with
          | 0, _ => exact .inr rfl
          | 1, _ => exact .inr rfl
          | 2, _ => exact .inr rfl
          | 3, _ => exact .inr rfl
          | 4, _ => exact .inr rfl
          | 5, _ => exact .inr rfl
          | 6, _ => exact .inr rfl
          | 7, _ => exact .inl (.inl rfl)
          | 8, _ => exact .inr rfl
          | 9, _ => exact .inr rfl
          | j + 10, _ => exact .inr rfl
        with_reducible refine OpTo.plain ?_ ?_
        exact rfl
        have HS := Lib.hid (hI.lay (⟨7, 8, (.cells #[.int .i64 0, .int .i64 0] 79), (.cells #[.int .i64 0, .int .i64 0] 79)⟩ : Spec) (by simp) (by rfl) (.inr hN) (by rfl) (fun s' hs' _ => List.mem_singleton.1 hs') (.cells #[.int .i64 0, .int .i64 0] 79) rfl)
        clear hI hC hW hD hN
        go_wp2_with fail
        all_goals first | exact HS.out | exact ⟨rfl, HS.out⟩ | rfl
      · intro g D w' hD hW hC hI
        have hP : D 7 = true := waited_done hC hW (d := 12) (by kernel_rfl)
        obtain ⟨hg, hk⟩ := hI.zeroed (⟨7, 8, (.cells #[.int .i64 0, .int .i64 0] 79), (.cells #[.int .i64 0, .int .i64 0] 79)⟩ : Spec) (by simp) hP hD
        refine ⟨g, fun _ _ _ => rfl, ?_⟩
        with_reducible refine OpTo.plain ?_ ?_
        exact rfl
        refine wp_store_row 79 (.tmp 11) (.tmp 22) rfl (g 7) #[.int .i64 0, .int .i64 0] rfl rfl 79 _ hk (by kernel_rfl) rfl (by simp [Value.oneCell']) ⟨rfl, ?_⟩
        exact hI.fill (⟨7, 8, (.cells #[.int .i64 0, .int .i64 0] 79), (.cells #[.int .i64 0, .int .i64 0] 79)⟩ : Spec) (by simp) (by rfl) (show (8 : Nat) ≠ 7 by decide) (fun s' hs' _ => List.mem_singleton.1 hs') hP (below_keepRow _ _) (setRow_heap w' (g 7) _ _ 79 (0, 0) hk)
      · intro g D w' hD hW hC hI
        refine ⟨g, fun _ _ _ => rfl, ?_⟩
        with_reducible refine OpTo.plain ?_ ?_
        exact rfl
        have hS := hI.below
        have HS := Lib.hid (hI.step (Below.refl _ _) (k := 9) (by rfl))
        clear hI hS hC hW hD
        go_wp2_with fail
        all_goals first | exact HS.out | exact ⟨rfl, HS.out⟩ | rfl
    intro g1 D w2 hall hI
    obtain ⟨hg1, hk1⟩ := hI.full (⟨7, 8, (.cells #[.int .i64 0, .int .i64 0] 79), (.cells #[.int .i64 0, .int .i64 0] 79)⟩ : Spec) (by simp) (hall 7 (by decide)) (hall 8 (by decide))
    have B2 := Lib.hid (B0.out.trans (hI.below.mono B0.out.size))
    have KZ2 := Lib.hid (KZ.out.below hI.below KZ.out.lt)
    have KE2 := Lib.hid (KE.out.below hI.below KE.out.lt)
    have KA2 : Hid (Blk w2 (g1 7) #[.int .i64 0, .int .i64 0] 79) := Lib.hid hk1
    dsimp only
    generalize g1 7 = ga at *
    clear hI hall hk1 hg1 KZ KE B0 HA HL
    go_wp2_with (refine wpList_store_row rfl 35 (.tmp 8) (.tmp 26) rfl w.heap.size #[.int .u8 0, .int .u8 0, .int .u8 0, .int .i64 0, .int .i64 0] rfl rfl 35 _ KZ2.out.out (by kernel_rfl) rfl (by simp [Value.oneCell']) ?_)
    refine bodyPost_ret (v := .tuple #[noLn.val, .bool false]) (results_cell_and rfl _ _ w.heap.size 35 #[.int .u8 0, .int .u8 0, .int .u8 0, .int .i64 0, .int .i64 0] _ _ rfl (setRow_heap w2 w.heap.size _ _ _ (0, 0) KZ2.out.out) Try.underlying35 rfl (by kernel_rfl) rfl) rfl ⟨rfl, below_setRow B2.out (Nat.le_refl _) _⟩
  · rw [lnAt_some hl, hs] at HL
    rw [hl]
    obtain ⟨_, rfl, rfl, rfl⟩ := lineL_mem hl
    clear hl hs h hI ha hb hc
    go_enter Try.func16, Try.ntmps16
    go_wp2_with fail
    have B0 := Lib.hid (((Below.refl w.heap.size w).alloc (Nat.le_refl _) (.cells #[.int .u8 0, .int .u8 0, .int .u8 0, .int .i64 0, .int .i64 0] 35)).alloc (by simp) (.cells #[.int .u8 x.cr, .int .u8 x.de, .int .u8 x.cu] 77))
    have KZ := Lib.hid ((Blk.new w #[.int .u8 0, .int .u8 0, .int .u8 0, .int .i64 0, .int .i64 0] 35).alloc (.cells #[.int .u8 x.cr, .int .u8 x.de, .int .u8 x.cu] 77))
    have KE := Lib.hid (Blk.newAt (w.alloc (.cells #[.int .u8 0, .int .u8 0, .int .u8 0, .int .i64 0, .int .i64 0] 35)) #[.int .u8 x.cr, .int .u8 x.de, .int .u8 x.cu] 77 (g := w.heap.size + 1) (by simp))
    generalize ((w.alloc (.cells #[.int .u8 0, .int .u8 0, .int .u8 0, .int .i64 0, .int .i64 0] 35)).alloc (.cells #[.int .u8 x.cr, .int .u8 x.de, .int .u8 x.cu] 77)) = W at B0 KZ KE ⊢
    refine region_ghost (by kernel_rfl) (fun g : Nat → Nat => [(.pointer (some ⟨G, 0, none⟩)), (.map (some M)), (.agg #[.int .u8 x.cr, .int .u8 x.de, .int .u8 x.cu]), (.tuple #[.agg #[.int .i64 x.li, .int .i64 x.db], .bool true]), (.tuple #[.agg #[.int .i64 x.li, .int .i64 x.db], .bool true]), (.agg #[.int .i64 x.li, .int .i64 x.db]), (.bool true), (.pointer (some ⟨g 7, 0, none⟩)), undef, (.bool true)])
      (Lays W [(⟨7, 8, (.cells #[.int .i64 0, .int .i64 0] 79), (.cells #[.int .i64 x.li, .int .i64 x.db] 79)⟩ : Spec)]) (by kernel_rfl) (fun _ => 0) (Lays.start _ _ _) ?_
    intro AF hAF
    simp only [List.toList_toArray, puts, Act.put, List.getD_cons_zero, List.getD_cons_succ, List.setIfInBounds_toArray, List.set_cons_succ, List.set_cons_zero] at hAF
    have hAF2 : _ = AF := funext hAF
    subst hAF2
    clear hAF
    refine ⟨?_, ?_⟩
    · simp only [List.toList_toArray, EachG]
      refine ⟨?_, ?_, ?_, ?_, ?_, ?_, ?_, ?_, ?_, ?_, trivial⟩
      · intro g D w' hD hW hC hI
        refine ⟨g, fun _ _ _ => rfl, ?_⟩
        with_reducible refine OpTo.plain ?_ ?_
        exact rfl
        have hS := hI.below
        have HS := Lib.hid (hI.step (Below.refl _ _) (k := 0) (by rfl))
        clear hI hS hC hW hD
        go_wp2_with fail
        all_goals first | exact HS.out | exact ⟨rfl, HS.out⟩ | rfl
      · intro g D w' hD hW hC hI
        refine ⟨g, fun _ _ _ => rfl, ?_⟩
        with_reducible refine OpTo.plain ?_ ?_
        exact rfl
        have hS := hI.below
        have HI := Lib.hid hI
        have HC := Lib.hid (HA.out w' (B0.out.trans (hS.mono B0.out.size)))
        clear hI hS hC hW hD
        go_wp2_with fail
        refine HC.out.mono ?_
        rintro e w'' ⟨rfl, rfl⟩
        exact ⟨rfl, HI.out.step (Below.refl _ _) (by rfl)⟩
      · intro g D w' hD hW hC hI
        refine ⟨g, fun _ _ _ => rfl, ?_⟩
        with_reducible refine OpTo.plain ?_ ?_
        exact rfl
        have hS := hI.below
        have hl0 := Nat.lt_of_lt_of_le KE.out.lt hS.size
        have d0_0 := (KE.out.below hS KE.out.lt).cell 0
        have d0_1 := (KE.out.below hS KE.out.lt).cell 1
        have d0_2 := (KE.out.below hS KE.out.lt).cell 2
        simp at d0_0 d0_1 d0_2
        have HS := Lib.hid (hI.step (Below.refl _ _) (k := 2) (by rfl))
        clear hI hS hC hW hD
        go_wp2_with fail
        all_goals first | exact HS.out | exact ⟨rfl, HS.out⟩ | rfl
      · intro g D w' hD hW hC hI
        refine ⟨g, fun _ _ _ => rfl, ?_⟩
        with_reducible refine OpTo.plain ?_ ?_
        exact rfl
        have hS := hI.below
        have q := HL.out w' (B0.out.trans (hS.mono B0.out.size))
        have HS := Lib.hid (hI.step (Below.refl _ _) (k := 3) (by rfl))
        clear hI hS hC hW hD
        go_wp2_with fail
        all_goals first | exact HS.out | exact ⟨rfl, HS.out⟩ | rfl
      · intro g D w' hD hW hC hI
        refine ⟨g, fun _ _ _ => rfl, ?_⟩
        with_reducible refine OpTo.plain ?_ ?_
        exact rfl
        have hS := hI.below
        have HS := Lib.hid (hI.step (Below.refl _ _) (k := 4) (by rfl))
        clear hI hS hC hW hD
        go_wp2_with fail
        all_goals first | exact HS.out | exact ⟨rfl, HS.out⟩ | rfl
      · intro g D w' hD hW hC hI
        refine ⟨g, fun _ _ _ => rfl, ?_⟩
        with_reducible refine OpTo.plain ?_ ?_
        exact rfl
        have hS := hI.below
        have HS := Lib.hid (hI.step (Below.refl _ _) (k := 5) (by rfl))
        clear hI hS hC hW hD
        go_wp2_with fail
        all_goals first | exact HS.out | exact ⟨rfl, HS.out⟩ | rfl
      · intro g D w' hD hW hC hI
        refine ⟨g, fun _ _ _ => rfl, ?_⟩
        with_reducible refine OpTo.plain ?_ ?_
        exact rfl
        have hS := hI.below
        have HS := Lib.hid (hI.step (Below.refl _ _) (k := 6) (by rfl))
        clear hI hS hC hW hD
        go_wp2_with fail
        all_goals first | exact HS.out | exact ⟨rfl, HS.out⟩ | rfl
      · intro g D w' hD hW hC hI
        have hN : D 8 = false := waits_not hC hD 12 8 (by kernel_rfl)
        refine ⟨upd g 7 w'.heap.size, vals_upd _ (fun g : Nat → Nat => [(.pointer (some ⟨G, 0, none⟩)), (.map (some M)), (.agg #[.int .u8 x.cr, .int .u8 x.de, .int .u8 x.cu]), (.tuple #[.agg #[.int .i64 x.li, .int .i64 x.db], .bool true]), (.tuple #[.agg #[.int .i64 x.li, .int .i64 x.db], .bool true]), (.agg #[.int .i64 x.li, .int .i64 x.db]), (.bool true), (.pointer (some ⟨g 7, 0, none⟩)), undef, (.bool true)]) g 7 _ 12 hC hD ?_, ?_⟩
        · intro j hj
          match j, hj with
          | 0, _ => exact .inr rfl
          | 1, _ => exact .inr rfl
          | 2, _ => exact .inr rfl
          | 3, _ => exact .inr rfl
          | 4, _ => exact .inr rfl
          | 5, _ => exact .inr rfl
          | 6, _ => exact .inr rfl
          | 7, _ => exact .inl (.inl rfl)
          | 8, _ => exact .inr rfl
          | 9, _ => exact .inr rfl
          | j + 10, _ => exact .inr rfl
        with_reducible refine OpTo.plain ?_ ?_
        exact rfl
        have HS := Lib.hid (hI.lay (⟨7, 8, (.cells #[.int .i64 0, .int .i64 0] 79), (.cells #[.int .i64 x.li, .int .i64 x.db] 79)⟩ : Spec) (by simp) (by rfl) (.inr hN) (by rfl) (fun s' hs' _ => List.mem_singleton.1 hs') (.cells #[.int .i64 0, .int .i64 0] 79) rfl)
        clear hI hC hW hD hN
        go_wp2_with fail
        all_goals first | exact HS.out | exact ⟨rfl, HS.out⟩ | rfl
      · intro g D w' hD hW hC hI
        have hP : D 7 = true := waited_done hC hW (d := 12) (by kernel_rfl)
        obtain ⟨hg, hk⟩ := hI.zeroed (⟨7, 8, (.cells #[.int .i64 0, .int .i64 0] 79), (.cells #[.int .i64 x.li, .int .i64 x.db] 79)⟩ : Spec) (by simp) hP hD
        refine ⟨g, fun _ _ _ => rfl, ?_⟩
        with_reducible refine OpTo.plain ?_ ?_
        exact rfl
        refine wp_store_row 79 (.tmp 11) (.tmp 22) rfl (g 7) #[.int .i64 x.li, .int .i64 x.db] rfl rfl 79 _ hk (by kernel_rfl) rfl (by simp [Value.oneCell']) ⟨rfl, ?_⟩
        exact hI.fill (⟨7, 8, (.cells #[.int .i64 0, .int .i64 0] 79), (.cells #[.int .i64 x.li, .int .i64 x.db] 79)⟩ : Spec) (by simp) (by rfl) (show (8 : Nat) ≠ 7 by decide) (fun s' hs' _ => List.mem_singleton.1 hs') hP (below_keepRow _ _) (setRow_heap w' (g 7) _ _ 79 (0, 0) hk)
      · intro g D w' hD hW hC hI
        refine ⟨g, fun _ _ _ => rfl, ?_⟩
        with_reducible refine OpTo.plain ?_ ?_
        exact rfl
        have hS := hI.below
        have HS := Lib.hid (hI.step (Below.refl _ _) (k := 9) (by rfl))
        clear hI hS hC hW hD
        go_wp2_with fail
        all_goals first | exact HS.out | exact ⟨rfl, HS.out⟩ | rfl
    intro g1 D w2 hall hI
    obtain ⟨hg1, hk1⟩ := hI.full (⟨7, 8, (.cells #[.int .i64 0, .int .i64 0] 79), (.cells #[.int .i64 x.li, .int .i64 x.db] 79)⟩ : Spec) (by simp) (hall 7 (by decide)) (hall 8 (by decide))
    have B2 := Lib.hid (B0.out.trans (hI.below.mono B0.out.size))
    have KZ2 := Lib.hid (KZ.out.below hI.below KZ.out.lt)
    have KE2 := Lib.hid (KE.out.below hI.below KE.out.lt)
    have KA2 : Hid (Blk w2 (g1 7) #[.int .i64 x.li, .int .i64 x.db] 79) := Lib.hid hk1
    dsimp only
    generalize g1 7 = ga at *
    clear hI hall hk1 hg1 KZ KE B0 HA HL
    have e0 := KE2.out.cell 0; have e1 := KE2.out.cell 1; have e2 := KE2.out.cell 2
    have a0 := KA2.out.cell 0; have a1 := KA2.out.cell 1
    have le := KE2.out.lt; have la := KA2.out.lt
    simp at e0 e1 e2 a0 a1
    have CL := Lib.hid (pline_any x w2)
    go_wp2_with fail
    refine CL.out.mono ?_
    rintro e w3 ⟨rfl, b3⟩
    have B3 := Lib.hid (B2.out.trans (b3.mono B2.out.size))
    have KZ3 := Lib.hid (KZ2.out.below b3 KZ2.out.lt)
    clear b3 KZ2 KE2 KA2 B2 CL e0 e1 e2 a0 a1 le la
    go_wp2_with (refine wpList_store_row rfl 35 (.tmp 8) (.tmp 29) rfl w.heap.size #[.int .u8 x.cr, .int .u8 x.de, .int .u8 x.cu, .int .i64 x.li, .int .i64 x.db] rfl rfl 35 _ KZ3.out.out (by kernel_rfl) rfl (by simp [Value.oneCell']) ?_)
    refine bodyPost_ret (v := .tuple #[x.val, .bool true]) (results_cell_and rfl _ _ w.heap.size 35 #[.int .u8 x.cr, .int .u8 x.de, .int .u8 x.cu, .int .i64 x.li, .int .i64 x.db] _ _ rfl (setRow_heap w3 w.heap.size _ _ _ (0, 0) KZ3.out.out) Try.underlying35 rfl (by kernel_rfl) rfl) rfl ⟨rfl, below_setRow B3.out (Nat.le_refl _) _⟩

end Go.Proofs.Ytlcilpeljnoclaa
