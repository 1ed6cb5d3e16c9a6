/-
  The program's ledgers: one that is not there, or that no call made.
-/
import Derived.Test.YtajmladlmkkimaaLives03
import Derived.Test.YtajmladlmkkimaaPLed
namespace Go.Proofs.Ytajmladlmkkimaa
open Go.RowKit
set_option linter.unusedSimpArgs false
set_option linter.unusedVariables false

theorem nil_look {P : Program} {k t e : TypeId} {S : Value → Prop} (w : World) (K : KeyOk P k S) (ht : P.underlying t = some (.map k e)) {z : Value} (hz : (zeroValue e).run P w = .ok z w) {key : Value} (hk : S key) (c : Bool) :
    (Instr.lookup t (.map none) key c).run P w = .ok (if c then .tuple #[z, .bool false] else z) w := by
  rcases K.find w key hk [] (by simp) with ⟨h1, _⟩ | ⟨j, e0, _, h2, _⟩
  · simp [Instr.lookup, run_underlying ht, K.check w _ key hk, h1, hz, Result.andThen]
  · simp at h2

/-- A ledger without a map: none at all, or one that no call made. -/
def Void (w : World) (pv : Value) : Prop := ∀ w', Below w.heap.size w w' → Calls Try.prog 68 #[pv] w' fun e w'' => e = .returned (.map none) ∧ w' = w''
theorem Void.below {w w' : World} {pv : Value} (h : Void w pv) (k : Below w.heap.size w w') : Void w' pv := fun w'' q => h w'' (andB k q)
theorem void_nil (w : World) : Void w (.pointer none) := fun w' _ => all_nil w'
theorem void_zero {w : World} {g : Nat} {ps : List Int} (h : Blk w g (ledC ps (.map none)) 58) : Void w (.pointer (some ⟨g, 0, none⟩)) := fun w' k => all_any (h.below k h.lt)
theorem void_look {a b c : Int} (ha : In8 a) (hb : In8 b) (hc : In8 c) (w : World) :
    (Instr.lookup 56 (.map none) (.agg #[.int .u8 a, .int .u8 b, .int .u8 c]) true).run Try.prog w = .ok (.tuple #[.agg #[.int .i64 0, .int .i64 0], .bool false]) w ∧
    (Instr.lookup 56 (.map none) (.agg #[.int .u8 a, .int .u8 b, .int .u8 c]) false).run Try.prog w = .ok (.agg #[.int .i64 0, .int .i64 0]) w := by
  have q := fun o => nil_look w endsOk Try.underlying56 (zeroAmt w) (key := endsV a b c) ⟨a, b, c, rfl, ha, hb, hc⟩ o
  exact ⟨q true, q false⟩
theorem void_made {w : World} {pv : Value} (h : Void w pv) : ∀ w', Below w.heap.size w w' → Calls Try.prog 65 #[pv] w' fun e w'' => e = .returned (.bool false) ∧ w' = w'' := fun w' k => made_of (h w' k)
set_option maxHeartbeats 2000000 in
theorem void_open {w : World} {pv : Value} (h : Void w pv) (p : Int) : Calls Try.prog 47 #[pv, .int .u8 p] w fun e w' => e = .returned (.int .i64 2) ∧ w = w' := by
  have C1 := Lib.hid (void_made h w (Below.refl _ _))
  clear h
  go_enter Try.func47, Try.ntmps47
  go_wp2_with fail
  refine C1.out.mono ?_
  rintro e w ⟨rfl, rfl⟩
  go_wp2_with fail
  go_ret
  exact ⟨rfl, rfl⟩
set_option maxHeartbeats 2000000 in
theorem void_has {w : World} {pv : Value} (h : Void w pv) (p : Int) : Calls Try.prog 30 #[pv, .int .u8 p] w fun e w' => e = .returned (.bool false) ∧ w = w' := by
  have C1 := Lib.hid (void_made h w (Below.refl _ _))
  clear h
  go_enter Try.func30, Try.ntmps30
  go_wp2_with fail
  refine C1.out.mono ?_
  rintro e w ⟨rfl, rfl⟩
  go_wp2_with fail
  go_ret
  exact ⟨rfl, rfl⟩
set_option maxHeartbeats 2000000 in
theorem void_push {w : World} {pv : Value} (h : Void w pv) (a b c n : Int) : Calls Try.prog 52 #[pv, .int .u8 a, .int .u8 b, .int .u8 c, .int .i64 n] w fun e w' => e = .returned (.int .i64 2) ∧ w = w' := by
  have C1 := Lib.hid (void_made h w (Below.refl _ _))
  clear h
  go_enter Try.func52, Try.ntmps52
  go_wp2_with fail
  refine C1.out.mono ?_
  rintro e w ⟨rfl, rfl⟩
  go_wp2_with fail
  go_ret
  exact ⟨rfl, rfl⟩
set_option maxHeartbeats 2000000 in
theorem void_copy {w : World} {pv : Value} (h : Void w pv)  : Calls Try.prog 27 #[pv] w fun e w' => e = .returned (.pointer none) ∧ w = w' := by
  have C1 := Lib.hid (void_made h w (Below.refl _ _))
  clear h
  go_enter Try.func27, Try.ntmps27
  go_wp2_with fail
  refine C1.out.mono ?_
  rintro e w ⟨rfl, rfl⟩
  go_wp2_with fail
  go_ret
  exact ⟨rfl, rfl⟩
set_option maxHeartbeats 4000000 in
set_option maxRecDepth 100000 in
theorem void_room {w : World} {pv : Value} (h : Void w pv) {a b c : Int} (ha : In8 a) (hb : In8 b) (hc : In8 c) :
    Calls Try.prog 75 #[pv, .int .u8 a, .int .u8 b, .int .u8 c] w fun e w' => e = .returned (.int .i64 0) ∧ Below w.heap.size w w' := by
  have HA := Lib.hid h
  have HX := Lib.hid (fun w' (_ : Below w.heap.size w w') => (void_look ha hb hc w').2)
  have HY := Lib.hid (fun w' (_ : Below w.heap.size w w') => (void_look hb ha hc w').2)
  clear h ha hb hc
  go_enter Try.func75, Try.ntmps75
  go_wp2_with fail
  refine region_ghost (by kernel_rfl) (fun g : Nat → Nat => [pv, (.map none), (.int .u8 a), (.int .u8 b), (.int .u8 c), (.agg #[.int .u8 a, .int .u8 b, .int .u8 c]), (.agg #[.int .i64 0, .int .i64 0]), pv, (.map none), (.int .u8 b), (.int .u8 a), (.int .u8 c), (.agg #[.int .u8 b, .int .u8 a, .int .u8 c]), (.agg #[.int .i64 0, .int .i64 0]), (.pointer (some ⟨g 14, 0, none⟩)), (.pointer (some ⟨g 15, 0, none⟩)), undef, undef])
    (Lays w [(⟨14, 16, (.cells #[.int .i64 0, .int .i64 0] 119), (.cells #[.int .i64 0, .int .i64 0] 119)⟩ : Spec), (⟨15, 17, (.cells #[.int .i64 0, .int .i64 0] 119), (.cells #[.int .i64 0, .int .i64 0] 119)⟩ : Spec)]) (by kernel_rfl) (fun _ => 0) (Lays.start _ _ _) ?_
  intro AF hAF
  simp only [List.toList_toArray, puts, Act.put, List.getD_cons_zero, List.getD_cons_succ, List.setIfInBounds_toArray, List.set_cons_succ, List.set_cons_zero] at hAF
  have hAF2 : _ = AF := funext hAF
  subst hAF2
  clear hAF
  refine ⟨?_, ?_⟩
  · simp only [List.toList_toArray, EachG]
    refine ⟨?_, ?_, ?_, ?_, ?_, ?_, ?_, ?_, ?_, ?_, ?_, ?_, ?_, ?_, ?_, ?_, ?_, ?_, trivial⟩
    · intro g D w' hD hW hC hI
      refine ⟨g, fun _ _ _ => rfl, ?_⟩
      with_reducible refine OpTo.plain ?_ ?_
      exact rfl
      have hS := hI.below
      have HS := Lib.hid (hI.step (Below.refl _ _) (k := 0) (by rfl))
      clear hI hS hC hW hD
      go_wp2_with fail
      all_goals first | exact HS.out | exact ⟨rfl, HS.out⟩ | rfl
    · intro g D w' hD hW hC hI
      refine ⟨g, fun _ _ _ => rfl, ?_⟩
      with_reducible refine OpTo.plain ?_ ?_
      exact rfl
      have hS := hI.below
      have HI := Lib.hid hI
      have HC := Lib.hid (HA.out w' hS)
      clear hI hS hC hW hD
      go_wp2_with fail
      refine HC.out.mono ?_
      rintro e w'' ⟨rfl, rfl⟩
      exact ⟨rfl, HI.out.step (Below.refl _ _) (by rfl)⟩
    · intro g D w' hD hW hC hI
      refine ⟨g, fun _ _ _ => rfl, ?_⟩
      with_reducible refine OpTo.plain ?_ ?_
      exact rfl
      have hS := hI.below
      have HS := Lib.hid (hI.step (Below.refl _ _) (k := 2) (by rfl))
      clear hI hS hC hW hD
      go_wp2_with fail
      all_goals first | exact HS.out | exact ⟨rfl, HS.out⟩ | rfl
    · intro g D w' hD hW hC hI
      refine ⟨g, fun _ _ _ => rfl, ?_⟩
      with_reducible refine OpTo.plain ?_ ?_
      exact rfl
      have hS := hI.below
      have HS := Lib.hid (hI.step (Below.refl _ _) (k := 3) (by rfl))
      clear hI hS hC hW hD
      go_wp2_with fail
      all_goals first | exact HS.out | exact ⟨rfl, HS.out⟩ | rfl
    · intro g D w' hD hW hC hI
      refine ⟨g, fun _ _ _ => rfl, ?_⟩
      with_reducible refine OpTo.plain ?_ ?_
      exact rfl
      have hS := hI.below
      have HS := Lib.hid (hI.step (Below.refl _ _) (k := 4) (by rfl))
      clear hI hS hC hW hD
      go_wp2_with fail
      all_goals first | exact HS.out | exact ⟨rfl, HS.out⟩ | rfl
    · intro g D w' hD hW hC hI
      refine ⟨g, fun _ _ _ => rfl, ?_⟩
      with_reducible refine OpTo.plain ?_ ?_
      exact rfl
      have hS := hI.below
      have HS := Lib.hid (hI.step (Below.refl _ _) (k := 5) (by rfl))
      clear hI hS hC hW hD
      go_wp2_with fail
      all_goals first | exact HS.out | exact ⟨rfl, HS.out⟩ | rfl
    · intro g D w' hD hW hC hI
      refine ⟨g, fun _ _ _ => rfl, ?_⟩
      with_reducible refine OpTo.plain ?_ ?_
      exact rfl
      have hS := hI.below
      have q := HX.out w' hS
      have HS := Lib.hid (hI.step (Below.refl _ _) (k := 6) (by rfl))
      clear hI hS hC hW hD
      go_wp2_with fail
      all_goals first | exact HS.out | exact ⟨rfl, HS.out⟩ | rfl
    · intro g D w' hD hW hC hI
      refine ⟨g, fun _ _ _ => rfl, ?_⟩
      with_reducible refine OpTo.plain ?_ ?_
      exact rfl
      have hS := hI.below
      have HS := Lib.hid (hI.step (Below.refl _ _) (k := 7) (by rfl))
      clear hI hS hC hW hD
      go_wp2_with fail
      all_goals first | exact HS.out | exact ⟨rfl, HS.out⟩ | rfl
    · intro g D w' hD hW hC hI
      refine ⟨g, fun _ _ _ => rfl, ?_⟩
      with_reducible refine OpTo.plain ?_ ?_
      exact rfl
      have hS := hI.below
      have HI := Lib.hid hI
      have HC := Lib.hid (HA.out w' hS)
      clear hI hS hC hW hD
      go_wp2_with fail
      refine HC.out.mono ?_
      rintro e w'' ⟨rfl, rfl⟩
      exact ⟨rfl, HI.out.step (Below.refl _ _) (by rfl)⟩
    · intro g D w' hD hW hC hI
      refine ⟨g, fun _ _ _ => rfl, ?_⟩
      with_reducible refine OpTo.plain ?_ ?_
      exact rfl
      have hS := hI.below
      have HS := Lib.hid (hI.step (Below.refl _ _) (k := 9) (by rfl))
      clear hI hS hC hW hD
      go_wp2_with fail
      all_goals first | exact HS.out | exact ⟨rfl, HS.out⟩ | rfl
    · intro g D w' hD hW hC hI
      refine ⟨g, fun _ _ _ => rfl, ?_⟩
      with_reducible refine OpTo.plain ?_ ?_
      exact rfl
      have hS := hI.below
      have HS := Lib.hid (hI.step (Below.refl _ _) (k := 10) (by rfl))
      clear hI hS hC hW hD
      go_wp2_with fail
      all_goals first | exact HS.out | exact ⟨rfl, HS.out⟩ | rfl
    · intro g D w' hD hW hC hI
      refine ⟨g, fun _ _ _ => rfl, ?_⟩
      with_reducible refine OpTo.plain ?_ ?_
      exact rfl
      have hS := hI.below
      have HS := Lib.hid (hI.step (Below.refl _ _) (k := 11) (by rfl))
      clear hI hS hC hW hD
      go_wp2_with fail
      all_goals first | exact HS.out | exact ⟨rfl, HS.out⟩ | rfl
    · intro g D w' hD hW hC hI
      refine ⟨g, fun _ _ _ => rfl, ?_⟩
      with_reducible refine OpTo.plain ?_ ?_
      exact rfl
      have hS := hI.below
      have HS := Lib.hid (hI.step (Below.refl _ _) (k := 12) (by rfl))
      clear hI hS hC hW hD
      go_wp2_with fail
      all_goals first | exact HS.out | exact ⟨rfl, HS.out⟩ | rfl
    · intro g D w' hD hW hC hI
      refine ⟨g, fun _ _ _ => rfl, ?_⟩
      with_reducible refine OpTo.plain ?_ ?_
      exact rfl
      have hS := hI.below
      have q := HY.out w' hS
      have HS := Lib.hid (hI.step (Below.refl _ _) (k := 13) (by rfl))
      clear hI hS hC hW hD
      go_wp2_with fail
      all_goals first | exact HS.out | exact ⟨rfl, HS.out⟩ | rfl
    · intro g D w' hD hW hC hI
      have hN : D 16 = false := waits_not hC hD 12 16 (by kernel_rfl)
      refine ⟨upd g 14 w'.heap.size, vals_upd _ (fun g : Nat → Nat => [pv, (.map none), (.int .u8 a), (.int .u8 b), (.int .u8 c), (.agg #[.int .u8 a, .int .u8 b, .int .u8 c]), (.agg #[.int .i64 0, .int .i64 0]), pv, (.map none), (.int .u8 b), (.int .u8 a), (.int .u8 c), (.agg #[.int .u8 b, .int .u8 a, .int .u8 c]), (.agg #[.int .i64 0, .int .i64 0]), (.pointer (some ⟨g 14, 0, none⟩)), (.pointer (some ⟨g 15, 0, none⟩)), undef, undef]) g 14 _ 12 hC hD ?_, ?_⟩
      · intro j hj
        match j, hj with
        | 0, _ => exact .inr rfl
        | 1, _ => exact .inr rfl
        | 2, _ => exact .inr rfl
        | 3, _ => exact .inr rfl
        | 4, _ => exact .inr rfl
        | 5, _ => exact .inr rfl
        | 6, _ => exact .inr rfl
        | 7, _ => exact .inr rfl
        | 8, _ => exact .inr rfl
        | 9, _ => exact .inr rfl
        | 10, _ => exact .inr rfl
        | 11, _ => exact .inr rfl
        | 12, _ => exact .inr rfl
        | 13, _ => exact .inr rfl
        | 14, _ => exact .inl (.inl rfl)
        | 15, _ => exact .inr rfl
        | 16, _ => exact .inr rfl
        | 17, _ => exact .inr rfl
        | j + 18, _ => exact .inr rfl
      with_reducible refine OpTo.plain ?_ ?_
      exact rfl
      have HS := Lib.hid (hI.lay (⟨14, 16, (.cells #[.int .i64 0, .int .i64 0] 119), (.cells #[.int .i64 0, .int .i64 0] 119)⟩ : Spec) (by simp) (by rfl) (.inr hN) (by rfl) (by intro s' hs' he; simp only [List.mem_cons, List.not_mem_nil, or_false] at hs'; rcases hs' with rfl | rfl <;> first | rfl | (simp at he)) (.cells #[.int .i64 0, .int .i64 0] 119) rfl)
      clear hI hC hW hD hN
      go_wp2_with fail
      all_goals first | exact HS.out | exact ⟨rfl, HS.out⟩ | rfl
    · intro g D w' hD hW hC hI
      have hN : D 17 = false := waits_not hC hD 12 17 (by kernel_rfl)
      refine ⟨upd g 15 w'.heap.size, vals_upd _ (fun g : Nat → Nat => [pv, (.map none), (.int .u8 a), (.int .u8 b), (.int .u8 c), (.agg #[.int .u8 a, .int .u8 b, .int .u8 c]), (.agg #[.int .i64 0, .int .i64 0]), pv, (.map none), (.int .u8 b), (.int .u8 a), (.int .u8 c), (.agg #[.int .u8 b, .int .u8 a, .int .u8 c]), (.agg #[.int .i64 0, .int .i64 0]), (.pointer (some ⟨g 14, 0, none⟩)), (.pointer (some ⟨g 15, 0, none⟩)), undef, undef]) g 15 _ 12 hC hD ?_, ?_⟩
      · intro j hj
        match j, hj with
        | 0, _ => exact .inr rfl
        | 1, _ => exact .inr rfl
        | 2, _ => exact .inr rfl
        | 3, _ => exact .inr rfl
        | 4, _ => exact .inr rfl
        | 5, _ => exact .inr rfl
        | 6, _ => exact .inr rfl
        | 7, _ => exact .inr rfl
        | 8, _ => exact .inr rfl
        | 9, _ => exact .inr rfl
        | 10, _ => exact .inr rfl
        | 11, _ => exact .inr rfl
        | 12, _ => exact .inr rfl
        | 13, _ => exact .inr rfl
        | 14, _ => exact .inr rfl
        | 15, _ => exact .inl (.inl rfl)
        | 16, _ => exact .inr rfl
        | 17, _ => exact .inr rfl
        | j + 18, _ => exact .inr rfl
      with_reducible refine OpTo.plain ?_ ?_
      exact rfl
      have HS := Lib.hid (hI.lay (⟨15, 17, (.cells #[.int .i64 0, .int .i64 0] 119), (.cells #[.int .i64 0, .int .i64 0] 119)⟩ : Spec) (by simp) (by rfl) (.inr hN) (by rfl) (by intro s' hs' he; simp only [List.mem_cons, List.not_mem_nil, or_false] at hs'; rcases hs' with rfl | rfl <;> first | rfl | (simp at he)) (.cells #[.int .i64 0, .int .i64 0] 119) rfl)
      clear hI hC hW hD hN
      go_wp2_with fail
      all_goals first | exact HS.out | exact ⟨rfl, HS.out⟩ | rfl
    · intro g D w' hD hW hC hI
      have hP : D 14 = true := waited_done hC hW (d := 12) (by kernel_rfl)
      obtain ⟨hg, hk⟩ := hI.zeroed (⟨14, 16, (.cells #[.int .i64 0, .int .i64 0] 119), (.cells #[.int .i64 0, .int .i64 0] 119)⟩ : Spec) (by simp) hP hD
      refine ⟨g, fun _ _ _ => rfl, ?_⟩
      with_reducible refine OpTo.plain ?_ ?_
      exact rfl
      refine wp_store_row 119 (.tmp 9) (.tmp 17) rfl (g 14) #[.int .i64 0, .int .i64 0] rfl rfl 119 _ hk (by kernel_rfl) rfl (by simp [Value.oneCell']) ⟨rfl, ?_⟩
      exact hI.fill (⟨14, 16, (.cells #[.int .i64 0, .int .i64 0] 119), (.cells #[.int .i64 0, .int .i64 0] 119)⟩ : Spec) (by simp) (by rfl) (show (16 : Nat) ≠ 14 by decide) (by intro s' hs' he; simp only [List.mem_cons, List.not_mem_nil, or_false] at hs'; rcases hs' with rfl | rfl <;> first | rfl | (simp at he)) hP (below_keepRow _ _) (setRow_heap w' (g 14) _ _ 119 (0, 0) hk)
    · intro g D w' hD hW hC hI
      have hP : D 15 = true := waited_done hC hW (d := 12) (by kernel_rfl)
      obtain ⟨hg, hk⟩ := hI.zeroed (⟨15, 17, (.cells #[.int .i64 0, .int .i64 0] 119), (.cells #[.int .i64 0, .int .i64 0] 119)⟩ : Spec) (by simp) hP hD
      refine ⟨g, fun _ _ _ => rfl, ?_⟩
      with_reducible refine OpTo.plain ?_ ?_
      exact rfl
      refine wp_store_row 119 (.tmp 10) (.tmp 24) rfl (g 15) #[.int .i64 0, .int .i64 0] rfl rfl 119 _ hk (by kernel_rfl) rfl (by simp [Value.oneCell']) ⟨rfl, ?_⟩
      exact hI.fill (⟨15, 17, (.cells #[.int .i64 0, .int .i64 0] 119), (.cells #[.int .i64 0, .int .i64 0] 119)⟩ : Spec) (by simp) (by rfl) (show (17 : Nat) ≠ 15 by decide) (by intro s' hs' he; simp only [List.mem_cons, List.not_mem_nil, or_false] at hs'; rcases hs' with rfl | rfl <;> first | rfl | (simp at he)) hP (below_keepRow _ _) (setRow_heap w' (g 15) _ _ 119 (0, 0) hk)
  intro g1 D w2 hall hI
  obtain ⟨hg1, hk1⟩ := hI.full (⟨14, 16, (.cells #[.int .i64 0, .int .i64 0] 119), (.cells #[.int .i64 0, .int .i64 0] 119)⟩ : Spec) (by simp) (hall 14 (by decide)) (hall 16 (by decide))
  obtain ⟨hg2, hk2⟩ := hI.full (⟨15, 17, (.cells #[.int .i64 0, .int .i64 0] 119), (.cells #[.int .i64 0, .int .i64 0] 119)⟩ : Spec) (by simp) (hall 15 (by decide)) (hall 17 (by decide))
  have B2 := Lib.hid hI.below
  have KX : Hid (Blk w2 (g1 14) #[.int .i64 0, .int .i64 0] 119) := Lib.hid hk1
  have KY : Hid (Blk w2 (g1 15) #[.int .i64 0, .int .i64 0] 119) := Lib.hid hk2
  dsimp only
  generalize g1 14 = gx at *
  generalize g1 15 = gy at *
  clear hI hall hk1 hg1 hk2 hg2 HA HX HY
  have x1 := KX.out.cell 1; have y0 := KY.out.cell 0; have y1 := KY.out.cell 1
  have lx := KX.out.lt; have ly := KY.out.lt
  simp at x1 y0 y1
  go_wp2_with fail
  go_ret
  exact ⟨rfl, B2.out⟩
set_option maxHeartbeats 4000000 in
set_option maxRecDepth 100000 in
theorem void_trust {w : World} {pv : Value} (h : Void w pv) {a b c : Int} (n : Int) (ha : In8 a) (hb : In8 b) (hc : In8 c) :
    Calls Try.prog 48 #[pv, .int .u8 a, .int .u8 b, .int .u8 c, .int .i64 n] w fun e w' => e = .returned (.int .i64 2) ∧ Below w.heap.size w w' := by
  have HA := Lib.hid h
  have HM := Lib.hid (void_made h)
  have HL := Lib.hid (fun w' (_ : Below w.heap.size w w') => (void_look ha hb hc w').1)
  clear h ha hb hc
  go_enter Try.func48, Try.ntmps48
  go_wp2_with fail
  have B0 := Lib.hid ((Below.refl w.heap.size w).alloc (Nat.le_refl _) (.cells #[.int .u8 a, .int .u8 b, .int .u8 c] 117))
  have KE := Lib.hid (Blk.new w #[.int .u8 a, .int .u8 b, .int .u8 c] 117)
  generalize (w.alloc (.cells #[.int .u8 a, .int .u8 b, .int .u8 c] 117)) = W at B0 KE ⊢
  refine region_ghost (by kernel_rfl) (fun g : Nat → Nat => [pv, (.map none), (.agg #[.int .u8 a, .int .u8 b, .int .u8 c]), (.tuple #[.agg #[.int .i64 0, .int .i64 0], .bool false]), (.tuple #[.agg #[.int .i64 0, .int .i64 0], .bool false]), (.agg #[.int .i64 0, .int .i64 0]), (.bool false), (.pointer (some ⟨g 7, 0, none⟩)), undef, (.bool false)])
    (Lays W [(⟨7, 8, (.cells #[.int .i64 0, .int .i64 0] 119), (.cells #[.int .i64 0, .int .i64 0] 119)⟩ : Spec)]) (by kernel_rfl) (fun _ => 0) (Lays.start _ _ _) ?_
  intro AF hAF
  simp only [List.toList_toArray, puts, Act.put, List.getD_cons_zero, List.getD_cons_succ, List.setIfInBounds_toArray, List.set_cons_succ, List.set_cons_zero] at hAF
  have hAF2 : _ = AF := funext hAF
  subst hAF2
  clear hAF
  refine ⟨?_, ?_⟩
  · simp only [List.toList_toArray, EachG]
    refine ⟨?_, ?_, ?_, ?_, ?_, ?_, ?_, ?_, ?_, ?_, trivial⟩
    · intro g D w' hD hW hC hI
      refine ⟨g, fun _ _ _ => rfl, ?_⟩
      with_reducible refine OpTo.plain ?_ ?_
      exact rfl
      have hS := hI.below
      have HS := Lib.hid (hI.step (Below.refl _ _) (k := 0) (by rfl))
      clear hI hS hC hW hD
      go_wp2_with fail
      all_goals first | exact HS.out | exact ⟨rfl, HS.out⟩ | rfl
    · intro g D w' hD hW hC hI
      refine ⟨g, fun _ _ _ => rfl, ?_⟩
      with_reducible refine OpTo.plain ?_ ?_
      exact rfl
      have hS := hI.below
      have HI := Lib.hid hI
      have HC := Lib.hid (HA.out w' (B0.out.trans (hS.mono B0.out.size)))
      clear hI hS hC hW hD
      go_wp2_with fail
      refine HC.out.mono ?_
      rintro e w'' ⟨rfl, rfl⟩
      exact ⟨rfl, HI.out.step (Below.refl _ _) (by rfl)⟩
    · intro g D w' hD hW hC hI
      refine ⟨g, fun _ _ _ => rfl, ?_⟩
      with_reducible refine OpTo.plain ?_ ?_
      exact rfl
      have hS := hI.below
      have hl0 := Nat.lt_of_lt_of_le KE.out.lt hS.size
      have d0_0 := (KE.out.below hS KE.out.lt).cell 0
      have d0_1 := (KE.out.below hS KE.out.lt).cell 1
      have d0_2 := (KE.out.below hS KE.out.lt).cell 2
      simp at d0_0 d0_1 d0_2
      have HS := Lib.hid (hI.step (Below.refl _ _) (k := 2) (by rfl))
      clear hI hS hC hW hD
      go_wp2_with fail
      all_goals first | exact HS.out | exact ⟨rfl, HS.out⟩ | rfl
    · intro g D w' hD hW hC hI
      refine ⟨g, fun _ _ _ => rfl, ?_⟩
      with_reducible refine OpTo.plain ?_ ?_
      exact rfl
      have hS := hI.below
      have q := HL.out w' (B0.out.trans (hS.mono B0.out.size))
      have HS := Lib.hid (hI.step (Below.refl _ _) (k := 3) (by rfl))
      clear hI hS hC hW hD
      go_wp2_with fail
      all_goals first | exact HS.out | exact ⟨rfl, HS.out⟩ | rfl
    · intro g D w' hD hW hC hI
      refine ⟨g, fun _ _ _ => rfl, ?_⟩
      with_reducible refine OpTo.plain ?_ ?_
      exact rfl
      have hS := hI.below
      have HS := Lib.hid (hI.step (Below.refl _ _) (k := 4) (by rfl))
      clear hI hS hC hW hD
      go_wp2_with fail
      all_goals first | exact HS.out | exact ⟨rfl, HS.out⟩ | rfl
    · intro g D w' hD hW hC hI
      refine ⟨g, fun _ _ _ => rfl, ?_⟩
      with_reducible refine OpTo.plain ?_ ?_
      exact rfl
      have hS := hI.below
      have HS := Lib.hid (hI.step (Below.refl _ _) (k := 5) (by rfl))
      clear hI hS hC hW hD
      go_wp2_with fail
      all_goals first | exact HS.out | exact ⟨rfl, HS.out⟩ | rfl
    · intro g D w' hD hW hC hI
      refine ⟨g, fun _ _ _ => rfl, ?_⟩
      with_reducible refine OpTo.plain ?_ ?_
      exact rfl
      have hS := hI.below
      have HS := Lib.hid (hI.step (Below.refl _ _) (k := 6) (by rfl))
      clear hI hS hC hW hD
      go_wp2_with fail
      all_goals first | exact HS.out | exact ⟨rfl, HS.out⟩ | rfl
    · intro g D w' hD hW hC hI
      have hN : D 8 = false := waits_not hC hD 12 8 (by kernel_rfl)
      refine ⟨upd g 7 w'.heap.size, vals_upd _ (fun g : Nat → Nat => [pv, (.map none), (.agg #[.int .u8 a, .int .u8 b, .int .u8 c]), (.tuple #[.agg #[.int .i64 0, .int .i64 0], .bool false]), (.tuple #[.agg #[.int .i64 0, .int .i64 0], .bool false]), (.agg #[.int .i64 0, .int .i64 0]), (.bool false), (.pointer (some ⟨g 7, 0, none⟩)), undef, (.bool false)]) g 7 _ 12 hC hD ?_, ?_⟩
      · intro j hj
        match j, hj with
        | 0, _ => exact .inr rfl
        | 1, _ => exact .inr rfl
        | 2, _ => exact .inr rfl
        | 3, _ => exact .inr rfl
        | 4, _ => exact .inr rfl
        | 5, _ => exact .inr rfl
        | 6, _ => exact .inr rfl
        | 7, _ => exact .inl (.inl rfl)
        | 8, _ => exact .inr rfl
        | 9, _ => exact .inr rfl
        | j + 10, _ => exact .inr rfl
      with_reducible refine OpTo.plain ?_ ?_
      exact rfl
      have HS := Lib.hid (hI.lay (⟨7, 8, (.cells #[.int .i64 0, .int .i64 0] 119), (.cells #[.int .i64 0, .int .i64 0] 119)⟩ : Spec) (by simp) (by rfl) (.inr hN) (by rfl) (fun s' hs' _ => List.mem_singleton.1 hs') (.cells #[.int .i64 0, .int .i64 0] 119) rfl)
      clear hI hC hW hD hN
      go_wp2_with fail
      all_goals first | exact HS.out | exact ⟨rfl, HS.out⟩ | rfl
    · intro g D w' hD hW hC hI
      have hP : D 7 = true := waited_done hC hW (d := 12) (by kernel_rfl)
      obtain ⟨hg, hk⟩ := hI.zeroed (⟨7, 8, (.cells #[.int .i64 0, .int .i64 0] 119), (.cells #[.int .i64 0, .int .i64 0] 119)⟩ : Spec) (by simp) hP hD
      refine ⟨g, fun _ _ _ => rfl, ?_⟩
      with_reducible refine OpTo.plain ?_ ?_
      exact rfl
      refine wp_store_row 119 (.tmp 12) (.tmp 23) rfl (g 7) #[.int .i64 0, .int .i64 0] rfl rfl 119 _ hk (by kernel_rfl) rfl (by simp [Value.oneCell']) ⟨rfl, ?_⟩
      exact hI.fill (⟨7, 8, (.cells #[.int .i64 0, .int .i64 0] 119), (.cells #[.int .i64 0, .int .i64 0] 119)⟩ : Spec) (by simp) (by rfl) (show (8 : Nat) ≠ 7 by decide) (fun s' hs' _ => List.mem_singleton.1 hs') hP (below_keepRow _ _) (setRow_heap w' (g 7) _ _ 119 (0, 0) hk)
    · intro g D w' hD hW hC hI
      refine ⟨g, fun _ _ _ => rfl, ?_⟩
      with_reducible refine OpTo.plain ?_ ?_
      exact rfl
      have hS := hI.below
      have HS := Lib.hid (hI.step (Below.refl _ _) (k := 9) (by rfl))
      clear hI hS hC hW hD
      go_wp2_with fail
      all_goals first | exact HS.out | exact ⟨rfl, HS.out⟩ | rfl
  intro g1 D w2 hall hI2
  have B2 := Lib.hid (B0.out.trans (hI2.below.mono B0.out.size))
  have C2 := Lib.hid (HM.out w2 B2.out)
  clear hI2 hall KE B0 HL HA HM
  dsimp only
  generalize g1 7 = ga at *
  go_wp2_with fail
  refine C2.out.mono ?_
  rintro e w2 ⟨rfl, rfl⟩
  go_wp2_with fail
  go_ret
  exact ⟨rfl, B2.out⟩
set_option maxHeartbeats 4000000 in
set_option maxRecDepth 100000 in
theorem void_forgive {w : World} {pv : Value} (h : Void w pv) {a b c : Int} (n : Int) (ha : In8 a) (hb : In8 b) (hc : In8 c) :
    Calls Try.prog 54 #[pv, .int .u8 a, .int .u8 b, .int .u8 c, .int .i64 n] w fun e w' => e = .returned (.int .i64 2) ∧ Below w.heap.size w w' := by
  have HA := Lib.hid h
  have HM := Lib.hid (void_made h)
  have HL := Lib.hid (fun w' (_ : Below w.heap.size w w') => (void_look ha hb hc w').1)
  clear h ha hb hc
  go_enter Try.func54, Try.ntmps54
  go_wp2_with fail
  have B0 := Lib.hid ((Below.refl w.heap.size w).alloc (Nat.le_refl _) (.cells #[.int .u8 a, .int .u8 b, .int .u8 c] 117))
  have KE := Lib.hid (Blk.new w #[.int .u8 a, .int .u8 b, .int .u8 c] 117)
  generalize (w.alloc (.cells #[.int .u8 a, .int .u8 b, .int .u8 c] 117)) = W at B0 KE ⊢
  refine region_ghost (by kernel_rfl) (fun g : Nat → Nat => [pv, (.map none), (.agg #[.int .u8 a, .int .u8 b, .int .u8 c]), (.tuple #[.agg #[.int .i64 0, .int .i64 0], .bool false]), (.tuple #[.agg #[.int .i64 0, .int .i64 0], .bool false]), (.agg #[.int .i64 0, .int .i64 0]), (.bool false), (.pointer (some ⟨g 7, 0, none⟩)), undef, (.bool false)])
    (Lays W [(⟨7, 8, (.cells #[.int .i64 0, .int .i64 0] 119), (.cells #[.int .i64 0, .int .i64 0] 119)⟩ : Spec)]) (by kernel_rfl) (fun _ => 0) (Lays.start _ _ _) ?_
  intro AF hAF
  simp only [List.toList_toArray, puts, Act.put, List.getD_cons_zero, List.getD_cons_succ, List.setIfInBounds_toArray, List.set_cons_succ, List.set_cons_zero] at hAF
  have hAF2 : _ = AF := funext hAF
  subst hAF2
  clear hAF
  refine ⟨?_, ?_⟩
  · simp only [List.toList_toArray, EachG]
    refine ⟨?_, ?_, ?_, ?_, ?_, ?_, ?_, ?_, ?_, ?_, trivial⟩
    · intro g D w' hD hW hC hI
      refine ⟨g, fun _ _ _ => rfl, ?_⟩
      with_reducible refine OpTo.plain ?_ ?_
      exact rfl
      have hS := hI.below
      have HS := Lib.hid (hI.step (Below.refl _ _) (k := 0) (by rfl))
      clear hI hS hC hW hD
      go_wp2_with fail
      all_goals first | exact HS.out | exact ⟨rfl, HS.out⟩ | rfl
    · intro g D w' hD hW hC hI
      refine ⟨g, fun _ _ _ => rfl, ?_⟩
      with_reducible refine OpTo.plain ?_ ?_
      exact rfl
      have hS := hI.below
      have HI := Lib.hid hI
      have HC := Lib.hid (HA.out w' (B0.out.trans (hS.mono B0.out.size)))
      clear hI hS hC hW hD
      go_wp2_with fail
      refine HC.out.mono ?_
      rintro e w'' ⟨rfl, rfl⟩
      exact ⟨rfl, HI.out.step (Below.refl _ _) (by rfl)⟩
    · intro g D w' hD hW hC hI
      refine ⟨g, fun _ _ _ => rfl, ?_⟩
      with_reducible refine OpTo.plain ?_ ?_
      exact rfl
      have hS := hI.below
      have hl0 := Nat.lt_of_lt_of_le KE.out.lt hS.size
      have d0_0 := (KE.out.below hS KE.out.lt).cell 0
      have d0_1 := (KE.out.below hS KE.out.lt).cell 1
      have d0_2 := (KE.out.below hS KE.out.lt).cell 2
      simp at d0_0 d0_1 d0_2
      have HS := Lib.hid (hI.step (Below.refl _ _) (k := 2) (by rfl))
      clear hI hS hC hW hD
      go_wp2_with fail
      all_goals first | exact HS.out | exact ⟨rfl, HS.out⟩ | rfl
    · intro g D w' hD hW hC hI
      refine ⟨g, fun _ _ _ => rfl, ?_⟩
      with_reducible refine OpTo.plain ?_ ?_
      exact rfl
      have hS := hI.below
      have q := HL.out w' (B0.out.trans (hS.mono B0.out.size))
      have HS := Lib.hid (hI.step (Below.refl _ _) (k := 3) (by rfl))
      clear hI hS hC hW hD
      go_wp2_with fail
      all_goals first | exact HS.out | exact ⟨rfl, HS.out⟩ | rfl
    · intro g D w' hD hW hC hI
      refine ⟨g, fun _ _ _ => rfl, ?_⟩
      with_reducible refine OpTo.plain ?_ ?_
      exact rfl
      have hS := hI.below
      have HS := Lib.hid (hI.step (Below.refl _ _) (k := 4) (by rfl))
      clear hI hS hC hW hD
      go_wp2_with fail
      all_goals first | exact HS.out | exact ⟨rfl, HS.out⟩ | rfl
    · intro g D w' hD hW hC hI
      refine ⟨g, fun _ _ _ => rfl, ?_⟩
      with_reducible refine OpTo.plain ?_ ?_
      exact rfl
      have hS := hI.below
      have HS := Lib.hid (hI.step (Below.refl _ _) (k := 5) (by rfl))
      clear hI hS hC hW hD
      go_wp2_with fail
      all_goals first | exact HS.out | exact ⟨rfl, HS.out⟩ | rfl
    · intro g D w' hD hW hC hI
      refine ⟨g, fun _ _ _ => rfl, ?_⟩
      with_reducible refine OpTo.plain ?_ ?_
      exact rfl
      have hS := hI.below
      have HS := Lib.hid (hI.step (Below.refl _ _) (k := 6) (by rfl))
      clear hI hS hC hW hD
      go_wp2_with fail
      all_goals first | exact HS.out | exact ⟨rfl, HS.out⟩ | rfl
    · intro g D w' hD hW hC hI
      have hN : D 8 = false := waits_not hC hD 12 8 (by kernel_rfl)
      refine ⟨upd g 7 w'.heap.size, vals_upd _ (fun g : Nat → Nat => [pv, (.map none), (.agg #[.int .u8 a, .int .u8 b, .int .u8 c]), (.tuple #[.agg #[.int .i64 0, .int .i64 0], .bool false]), (.tuple #[.agg #[.int .i64 0, .int .i64 0], .bool false]), (.agg #[.int .i64 0, .int .i64 0]), (.bool false), (.pointer (some ⟨g 7, 0, none⟩)), undef, (.bool false)]) g 7 _ 12 hC hD ?_, ?_⟩
      · intro j hj
        match j, hj with
        | 0, _ => exact .inr rfl
        | 1, _ => exact .inr rfl
        | 2, _ => exact .inr rfl
        | 3, _ => exact .inr rfl
        | 4, _ => exact .inr rfl
        | 5, _ => exact .inr rfl
        | 6, _ => exact .inr rfl
        | 7, _ => exact .inl (.inl rfl)
        | 8, _ => exact .inr rfl
        | 9, _ => exact .inr rfl
        | j + 10, _ => exact .inr rfl
      with_reducible refine OpTo.plain ?_ ?_
      exact rfl
      have HS := Lib.hid (hI.lay (⟨7, 8, (.cells #[.int .i64 0, .int .i64 0] 119), (.cells #[.int .i64 0, .int .i64 0] 119)⟩ : Spec) (by simp) (by rfl) (.inr hN) (by rfl) (fun s' hs' _ => List.mem_singleton.1 hs') (.cells #[.int .i64 0, .int .i64 0] 119) rfl)
      clear hI hC hW hD hN
      go_wp2_with fail
      all_goals first | exact HS.out | exact ⟨rfl, HS.out⟩ | rfl
    · intro g D w' hD hW hC hI
      have hP : D 7 = true := waited_done hC hW (d := 12) (by kernel_rfl)
      obtain ⟨hg, hk⟩ := hI.zeroed (⟨7, 8, (.cells #[.int .i64 0, .int .i64 0] 119), (.cells #[.int .i64 0, .int .i64 0] 119)⟩ : Spec) (by simp) hP hD
      refine ⟨g, fun _ _ _ => rfl, ?_⟩
      with_reducible refine OpTo.plain ?_ ?_
      exact rfl
      refine wp_store_row 119 (.tmp 12) (.tmp 23) rfl (g 7) #[.int .i64 0, .int .i64 0] rfl rfl 119 _ hk (by kernel_rfl) rfl (by simp [Value.oneCell']) ⟨rfl, ?_⟩
      exact hI.fill (⟨7, 8, (.cells #[.int .i64 0, .int .i64 0] 119), (.cells #[.int .i64 0, .int .i64 0] 119)⟩ : Spec) (by simp) (by rfl) (show (8 : Nat) ≠ 7 by decide) (fun s' hs' _ => List.mem_singleton.1 hs') hP (below_keepRow _ _) (setRow_heap w' (g 7) _ _ 119 (0, 0) hk)
    · intro g D w' hD hW hC hI
      refine ⟨g, fun _ _ _ => rfl, ?_⟩
      with_reducible refine OpTo.plain ?_ ?_
      exact rfl
      have hS := hI.below
      have HS := Lib.hid (hI.step (Below.refl _ _) (k := 9) (by rfl))
      clear hI hS hC hW hD
      go_wp2_with fail
      all_goals first | exact HS.out | exact ⟨rfl, HS.out⟩ | rfl
  intro g1 D w2 hall hI2
  have B2 := Lib.hid (B0.out.trans (hI2.below.mono B0.out.size))
  have C2 := Lib.hid (HM.out w2 B2.out)
  clear hI2 hall KE B0 HL HA HM
  dsimp only
  generalize g1 7 = ga at *
  go_wp2_with fail
  refine C2.out.mono ?_
  rintro e w2 ⟨rfl, rfl⟩
  go_wp2_with fail
  go_ret
  exact ⟨rfl, B2.out⟩
set_option maxHeartbeats 4000000 in
set_option maxRecDepth 100000 in
theorem void_pos {w : World} {pv : Value} (h : Void w pv) (p c : Int) : Calls Try.prog 76 #[pv, .int .u8 p, .int .u8 c] w fun e w' => e = .returned (.int .i64 0) ∧ Below w.heap.size w w' := by
  have C1 := Lib.hid (h w (Below.refl _ _))
  have hrg := run_range_nilMap (P := Try.prog) w 56 _ _ Try.underlying56
  have hnx : ∀ ty, (Instr.next (.pointer (some ⟨w.heap.size, 0, none⟩)) false ty).run Try.prog (w.alloc (.mapIter none 0 #[] 0)) = _ := fun ty => run_next_nilMap w ty 0 0 #[]
  have HB := Lib.hid ((Below.refl w.heap.size w).alloc (Nat.le_refl _) (.mapIter none 0 #[] 0))
  clear h
  go_enter Try.func76, Try.ntmps76
  go_wp2_with fail
  refine C1.out.mono ?_
  rintro e w ⟨rfl, rfl⟩
  go_wp2_with fail
  refine wp_loop_rounds 1 ?_
  rw [rounds_succ]
  go_wp2_with fail
  go_ret
  exact ⟨rfl, HB.out⟩
set_option maxHeartbeats 4000000 in
set_option maxRecDepth 100000 in
theorem void_lines {w : World} {pv : Value} (h : Void w pv)  : Calls Try.prog 29 #[pv] w fun e w' => e = .returned (.slice none 0 0) ∧ Below w.heap.size w w' := by
  have C1 := Lib.hid (h w (Below.refl _ _))
  have hrg := run_range_nilMap (P := Try.prog) w 56 _ _ Try.underlying56
  have hnx : ∀ ty, (Instr.next (.pointer (some ⟨w.heap.size, 0, none⟩)) false ty).run Try.prog (w.alloc (.mapIter none 0 #[] 0)) = _ := fun ty => run_next_nilMap w ty 0 0 #[]
  have HB := Lib.hid ((Below.refl w.heap.size w).alloc (Nat.le_refl _) (.mapIter none 0 #[] 0))
  clear h
  go_enter Try.func29, Try.ntmps29
  go_wp2_with fail
  refine C1.out.mono ?_
  rintro e w ⟨rfl, rfl⟩
  go_wp2_with fail
  refine wp_loop_rounds 1 ?_
  rw [rounds_succ]
  go_wp2_with fail
  refine (sortL_any (ls := []) (base := 0) Inv.nil (List.Perm.refl _) (by simp) (World.ownsRow_nil _ _ _ _)).mono ?_
  rintro e w2 ⟨rfl, _, hk⟩
  have HB2 := Lib.hid (HB.out.trans (hk.below HB.out.size (fun b hb he => by cases he)))
  have CC := Lib.hid (clipL_any (World.ownsRow_nil w2 0 121 5))
  clear hk
  go_wp2_with fail
  refine CC.out.mono ?_
  rintro e w3 ⟨v', rfl, hrow, hob, rfl⟩
  obtain rfl : v' = .slice none 0 0 := by
    rcases hrow.2 with ⟨h1, _⟩ | ⟨g, cur, h1, _⟩
    · exact h1
    · rw [h1] at hob; cases hob
  clear hrow hob CC
  go_wp2_with fail
  go_ret
  exact ⟨rfl, HB2.out⟩
set_option maxHeartbeats 4000000 in
set_option maxRecDepth 100000 in
theorem void_parties {w : World} {pv : Value} (h : Void w pv) : Calls Try.prog 64 #[pv] w fun e w' => e = .returned (.slice none 0 0) ∧ w = w' := by
  have c := Lib.hid (fun p => void_has h p)
  clear h
  go_enter Try.func64, Try.ntmps64
  go_wp2_with fail
  go_loop [3, 4] (fun v q => ∃ k : Nat, 1 ≤ k ∧ k ≤ 17 ∧ v = .slice none 0 0 ∧ q = .int .u8 k) (fun _ q => 17 - (intOf q).toNat)
  case atStart => exact ⟨1, by omega, by omega, rfl, rfl⟩
  case round =>
    obtain ⟨k, hk0, hk, rfl, rfl⟩ := hrel
    by_cases hkl : k ≤ 16
    · have hk1 : (k : Int) ≤ 16 := by omega
      go_wp2_with fail
      refine (c.out _).mono ?_
      rintro e w ⟨rfl, rfl⟩
      go_wp2_with fail
      go_round
      case rel => exact ⟨k + 1, by omega, by omega, rfl, by go_num⟩
      case measure => simp [intOf]; omega
    · obtain rfl : k = 17 := by omega
      have CC := Lib.hid (clipP_any (World.ownsRow_nil w 0 42 1))
      clear hk0 hk hkl
      go_wp2_with fail
      refine CC.out.mono ?_
      rintro e w3 ⟨v', rfl, hrow, hob, rfl⟩
      obtain rfl : v' = .slice none 0 0 := by
        rcases hrow.2 with ⟨h1, _⟩ | ⟨g, cur, h1, _⟩
        · exact h1
        · rw [h1] at hob; cases hob
      clear hrow hob CC
      go_wp2_with fail
      go_ret
      exact ⟨rfl, rfl⟩

end Go.Proofs.Ytajmladlmkkimaa
