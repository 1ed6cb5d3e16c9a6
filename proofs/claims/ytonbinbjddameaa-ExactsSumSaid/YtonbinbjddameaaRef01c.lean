/-
  The document's answers for layer 1, continued: a whole number as a number of 64 bits, sums and products.
-/
import Derived.Test.YtonbinbjddameaaRef01b
import Derived.Test.YtonbinbjddameaaLives01
import Derived.Test.YtonbinbjddameaaRegion
namespace Go.Proofs.Ytonbinbjddameaa
open Go.RowKit
set_option linter.unusedSimpArgs false
set_option linter.unusedVariables false

theorem half_bit (x k : Nat) : x / 2 ^ k = 2 * (x / 2 ^ (k + 1)) + (if x.testBit k then 1 else 0) := by
  rw [← bit_lt, Nat.pow_succ, ← Nat.div_div_eq_div_mul]; omega
theorem two_pow_64_le {k : Nat} (h : 64 ≤ k) : (18446744073709551616 : Nat) ≤ 2 ^ k := by
  have := Nat.pow_le_pow_right (n := 2) (by omega) h
  exact this

/-- Num, at the head of its loop, of a number below 2^64. -/
def NumAt (x : Nat) (u i : Value) : Prop := (∃ k : Nat, k < 192 ∧ i = .int .i64 k ∧ u = .int .u64 ((x / 2 ^ (k + 1) : Nat) : Int)) ∨ (i = .int .i64 (-1) ∧ u = .int .u64 x)
theorem num_next {x : Nat} (k : Nat) (hk : k < 192) {u : Int} (hu : u = ((x / 2 ^ k : Nat) : Int)) : NumAt x (.int .u64 u) (.int .i64 ((k : Int) - 1)) := by
  rcases Nat.eq_zero_or_pos k with rfl | hp
  · right; simp at hu; exact ⟨rfl, by rw [hu]⟩
  · left; refine ⟨k - 1, by omega, by rw [show (k : Int) - 1 = ((k - 1 : Nat) : Int) by omega], ?_⟩
    rw [show k - 1 + 1 = k by omega, hu]
theorem neg_back (x : Nat) (h : x ≤ 9223372036854775808) : wrap64 (IntKind.u64.wrap (bits .xor .u64 IntKind.u64.max (x : Int) + 1)) = -(x : Int) := by
  rw [u64_not _ (by omega), wrap_u64]
  obtain ⟨h1, h2⟩ := wrap64_def ((18446744073709551615 - (x : Int) + 1) % 18446744073709551616)
  unfold In64 at h1
  generalize wrap64 ((18446744073709551615 - (x : Int) + 1) % 18446744073709551616) = y at *
  omega
set_option maxHeartbeats 4000000 in
set_option maxRecDepth 100000 in
theorem num_small (neg : Bool) (x : Nat) (w : World) (hx : x < 18446744073709551616) :
    Calls Try.prog 29 #[wholeV neg x] w fun e w' => e = .returned (ans (if neg then -(x : Int) else x)) ∧ Below w.heap.size w w' := by
  have hhi : ∀ k, 64 ≤ k → x.testBit k = false := fun k hk => Nat.testBit_lt_two_pow (Nat.lt_of_lt_of_le hx (two_pow_64_le hk))
  have Hhi := Lib.hid hhi
  clear hhi
  have hx' : (x : Int) < 18446744073709551616 := by omega
  have HX := Lib.hid hx
  clear hx
  unfold wholeV
  go_enter Try.func29, Try.ntmps29
  go_wp2
  have k1 := Blk.new w (whole neg x.testBit) 49
  have hb : Below w.heap.size w (w.alloc (.cells (whole neg x.testBit) 49)) := (Below.refl _ _).alloc (Nat.le_refl _) _
  generalize w.alloc (.cells (whole neg x.testBit) 49) = W at *
  go_loop [4, 5] (NumAt x) (fun _ i => (intOf i + 1).toNat)
  case atStart => exact .inl ⟨191, by omega, rfl, by rw [Nat.div_eq_of_lt (Nat.lt_of_lt_of_le HX.out (two_pow_64_le (by omega)))]; rfl⟩
  case round =>
    rcases hrel with ⟨k, hk, rfl, rfl⟩ | ⟨rfl, rfl⟩
    · have hcell : W.cell? ⟨w.heap.size, 1 + k, none⟩ = some (.bool (x.testBit k)) := by rw [k1.cell (1 + k)]; exact whole_get _ _ k hk
      have hki : (k : Int) < 192 := by omega
      have hh := half_bit x k
      have hdl : x / 2 ^ k ≤ x := Nat.div_le_self _ _
      have hl2 : 2 * ((x / 2 ^ (k + 1) : Nat) : Int) < 18446744073709551616 := by omega
      have hl3 : (0 : Int) ≤ ((x / 2 ^ (k + 1) : Nat) : Int) := by omega
      have hbit := Hhi.out k
      have Hh := Lib.hid hh
      clear hh hdl
      generalize x / 2 ^ (k + 1) = v at *
      cases hb2 : x.testBit k
      · rw [hb2] at hcell Hh
        clear hbit hb2
        go_wp2
        go_round
        case rel => exact num_next k hk (by rw [Hh.out]; simp)
        case measure => simp [intOf] <;> omega
      · have hk64 : (k : Int) ≤ 63 := by
          rcases Nat.lt_or_ge k 64 with h | h
          · omega
          · rw [hbit h] at hb2; cases hb2
        rw [hb2] at hcell Hh
        clear hbit hb2
        have hl4 : 2 * ((v : Nat) : Int) + 1 < 18446744073709551616 := by
          have e : x / 2 ^ k = 2 * v + 1 := by rw [Hh.out, if_pos rfl]
          have hdl2 : x / 2 ^ k ≤ x := Nat.div_le_self _ _
          rw [e] at hdl2
          have hxo := HX.out
          clear hl2 hx' e Hh
          omega
        have e1 : IntKind.u64.wrap (2 * (v : Int)) = 2 * (v : Int) := u64_of _ (by unfold InU64; omega)
        have e2 : IntKind.u64.wrap (2 * (v : Int) + 1) = 2 * (v : Int) + 1 := u64_of _ (by unfold InU64; omega)
        have hg : decide ((63 : Int) < (k : Int)) = false := by simp; omega
        clear hl4 hl2 hl3
        go_wp2
        go_round
        case rel => exact num_next k hk (by rw [Hh.out]; simp)
        case measure => simp [intOf] <;> omega
    · have hcell : W.cell? ⟨w.heap.size, 0, none⟩ = some (.bool neg) := by rw [k1.cell 0]; exact whole_get0 _ _
      have hf0 := k1.frozen 0
      cases neg
      · by_cases hbig : (9223372036854775808 : Int) ≤ (x : Int)
        · have hA := Lib.hid (show ans (x : Int) = .tuple #[.int .i64 0, .int .i64 10] from ans_not _ (by unfold In64; omega))
          go_wp2
          go_ret2
          exact ⟨by rw [hA.out]; rfl, hb⟩
        · have hA := Lib.hid (show ans (x : Int) = .tuple #[.int .i64 (x : Int), .int .i64 0] from ans_of _ (by unfold In64; omega))
          go_wp2
          go_ret2
          exact ⟨by rw [hA.out]; rfl, hb⟩
      · have hv : (x : Int) ≤ 9223372036854775808 → wrap64 (IntKind.u64.wrap (bits .xor .u64 IntKind.u64.max (x : Int) + 1)) = -(x : Int) := fun h => neg_back x (by omega)
        have hx0 : (0 : Int) ≤ x := by omega
        generalize hz : (x : Int) = z at hx' hv hx0 ⊢
        have HZ := Lib.hid hz
        clear hz
        by_cases hbig : z ≤ 9223372036854775808
        · have hA := Lib.hid (show ans (-z) = .tuple #[.int .i64 (-z), .int .i64 0] from ans_of _ (by unfold In64; omega))
          have hv' := hv hbig
          clear hv
          go_wp2
          go_ret2
          exact ⟨by rw [HZ.out, hA.out]; rfl, hb⟩
        · have hbig2 : 9223372036854775808 ≤ z := by omega
          have hA := Lib.hid (show ans (-z) = .tuple #[.int .i64 0, .int .i64 10] from ans_not _ (by unfold In64; omega))
          clear hv
          go_wp2
          go_ret2
          exact ⟨by rw [HZ.out, hA.out]; rfl, hb⟩

/-- Num, at the head of its loop, of a number from 2^64 on: nothing has been met yet. -/
def NumBig (x : Nat) (i : Value) : Prop := ∃ k : Nat, 64 ≤ k ∧ k < 192 ∧ i = .int .i64 k ∧ x / 2 ^ (k + 1) = 0
set_option maxHeartbeats 4000000 in
set_option maxRecDepth 100000 in
theorem num_big (neg : Bool) (x : Nat) (w : World) (hx : 18446744073709551616 ≤ x) (hx2 : x < 2 ^ 192) :
    Calls Try.prog 29 #[wholeV neg x] w fun e w' => e = .returned (.tuple #[.int .i64 0, .int .i64 10]) ∧ Below w.heap.size w w' := by
  have HX := Lib.hid hx
  have H2 := Lib.hid hx2
  clear hx hx2
  unfold wholeV
  go_enter Try.func29, Try.ntmps29
  go_wp2
  have k1 := Blk.new w (whole neg x.testBit) 49
  have hb : Below w.heap.size w (w.alloc (.cells (whole neg x.testBit) 49)) := (Below.refl _ _).alloc (Nat.le_refl _) _
  generalize w.alloc (.cells (whole neg x.testBit) 49) = W at *
  go_loop [4, 5] (fun u i => u = .int .u64 0 ∧ NumBig x i) (fun _ i => (intOf i + 1).toNat)
  case atStart => exact ⟨rfl, 191, by omega, by omega, rfl, Nat.div_eq_of_lt H2.out⟩
  case round =>
    obtain ⟨rfl, k, hk64, hk, rfl, hz⟩ := hrel
    have hcell : W.cell? ⟨w.heap.size, 1 + k, none⟩ = some (.bool (x.testBit k)) := by rw [k1.cell (1 + k)]; exact whole_get _ _ k hk
    have hh := half_bit x k
    rw [hz] at hh
    have Hh := Lib.hid hh
    have HK := Lib.hid hk64
    have hki : (k : Int) < 192 := by omega
    have hk63 : (63 : Int) < (k : Int) := by omega
    clear hh hz hk64
    cases hb2 : x.testBit k
    · rw [hb2] at hcell Hh
      clear hb2
      have hne : k ≠ 64 := by
        rintro rfl
        have h := Hh.out
        simp at h
        have := HX.out
        omega
      have HN := Lib.hid hne
      clear hne
      go_wp2
      go_round
      case rel => exact ⟨rfl, k - 1, by have := HK.out; have := HN.out; omega, by omega, by rw [show (k : Int) - 1 = ((k - 1 : Nat) : Int) by have := HK.out; omega], by have := HK.out; rw [show k - 1 + 1 = k by omega, Hh.out]; simp⟩
      case measure => simp [intOf] <;> omega
    · rw [hb2] at hcell
      clear hb2
      go_wp2
      go_ret2
      exact ⟨rfl, hb⟩

theorem num_any (neg : Bool) (x : Nat) (w : World) (hx : x < 2 ^ 192) :
    Calls Try.prog 29 #[wholeV neg x] w fun e w' => e = .returned (ans (if neg then -(x : Int) else x)) ∧ Below w.heap.size w w' := by
  by_cases h : x < 18446744073709551616
  · exact num_small neg x w h
  · rw [ans_not _ (by unfold In64; cases neg <;> simp <;> omega)]
    exact num_big neg x w (by omega) hx

theorem build_whole2 (b : Bool) (f : Nat → Bool) (w : World) : (Instr.build 49 #[(0, .bool b), (1, .agg (arr f))]).run Try.prog w = .ok (.agg (whole b f)) w := by
  have h : (Instr.build 49 #[(0, .bool b), (1, .agg (arr f))]).run Try.prog = fun w => .ok (.agg (whole b f)) w := by
    kernel_rfl
  rw [h]
theorem whole_range {w : World} {g : Nat} {neg : Bool} {f : Nat → Bool} {t : TypeId} (h : Blk w g (whole neg f) t) : w.rangeAt g 1 (arr f).toList := by
  intro j v hv
  rw [h.cell (1 + j)]
  have hj : j < 192 := by
    rcases Nat.lt_or_ge j 192 with h | h
    · exact h
    · rw [List.getElem?_eq_none (by simp [arr_size]; omega)] at hv; cases hv
  rw [whole_get _ _ j hj]
  simpa [arr_get f j hj] using hv

theorem info_arr_l (f : Nat → Bool) : (Try.prog.info? 47).map (·.size) = some (arr f).toList.length := by rw [Array.length_toList]; exact info_arr f

/-- The sum of two whole numbers, as a sign and a size. -/
def togSign (na nb : Bool) (x y : Nat) : Bool := if na = nb then na else if x < y then nb else na
def togSize (na nb : Bool) (x y : Nat) : Nat := if na = nb then x + y else if x < y then y - x else x - y

set_option maxHeartbeats 4000000 in
set_option maxRecDepth 100000 in
theorem together_same (na : Bool) (x y : Nat) (w : World) :
    Calls Try.prog 30 #[wholeV na x, wholeV na y] w fun e w' => e = .returned (wholeV na (x + y)) ∧ Below w.heap.size w w' := by
  have hz := zero_whole
  unfold wholeV
  go_enter Try.func30, Try.ntmps30
  have k1 : Blk (((w.alloc (.cells (whole na x.testBit) 49)).alloc (.cells (whole na y.testBit) 49)).alloc (.cells (whole false fun _ => false) 49)) w.heap.size (whole na x.testBit) 49 := ((Blk.new _ _ _).alloc _).alloc _
  have k2 : Blk (((w.alloc (.cells (whole na x.testBit) 49)).alloc (.cells (whole na y.testBit) 49)).alloc (.cells (whole false fun _ => false) 49)) (w.heap.size + 1) (whole na y.testBit) 49 := (Blk.newAt _ _ _ (by simp)).alloc _
  have k3 : Blk (((w.alloc (.cells (whole na x.testBit) 49)).alloc (.cells (whole na y.testBit) 49)).alloc (.cells (whole false fun _ => false) 49)) (w.heap.size + 1 + 1) (whole false fun _ => false) 49 := Blk.newAt _ _ _ (by simp)
  have c1 := k1.cell 0; rw [whole_get0] at c1
  have c2 := k2.cell 0; rw [whole_get0] at c2
  have hb : Below w.heap.size w (((w.alloc (.cells (whole na x.testBit) 49)).alloc (.cells (whole na y.testBit) 49)).alloc (.cells (whole false fun _ => false) 49)) := (((Below.refl _ _).alloc (Nat.le_refl _) _).alloc (by simp) _).alloc (by simp; omega) _
  iterate 20 go_step
  generalize ((w.alloc (.cells (whole na x.testBit) 49)).alloc (.cells (whole na y.testBit) 49)).alloc (.cells (whole false fun _ => false) 49) = W at *
  go_wp2_with fail
  have hs3 := k3.lt
  refine region_tail (by kernel_rfl) 8 [.pointer (some ⟨w.heap.size, 0, none⟩), .bool na, .pointer (some ⟨w.heap.size, 1, none⟩), .agg (arr x.testBit), .pointer (some ⟨w.heap.size + 1, 1, none⟩), .agg (arr y.testBit), .agg (arr (x + y).testBit), .agg (whole na (x + y).testBit)]
    (fun w' => Below W.heap.size W w') (by kernel_rfl) rfl (by kernel_rfl) (Below.refl _ _).drew ?_
  intro af haf
  simp only [puts, Act.put, List.getD_cons_zero, List.getD_cons_succ, List.setIfInBounds_toArray, List.set_cons_succ, List.set_cons_zero] at haf
  subst haf
  refine ⟨?_, ?_⟩
  · simp only [List.take_succ_cons, List.take_zero, EachTo]
    refine ⟨?_, ?_, ?_, ?_, ?_, ?_, ?_, ?_, trivial⟩
    all_goals
      intro w' hS
      with_reducible refine OpTo.plain ?_ ?_
      exact rfl
    · go_wp2_with fail
      first | rfl | exact ⟨rfl, hS⟩
    · have d1 := (k1.below hS (by omega)).cell 0; rw [whole_get0] at d1
      go_wp2_with fail
      first | rfl | exact ⟨rfl, hS⟩
    · go_wp2_with fail
      first | rfl | exact ⟨rfl, hS⟩
    · refine wp_load_mid 47 (.tmp 12) rfl w.heap.size 1 rfl (arr x.testBit).toList _ (whole_range (k1.below hS (by omega))) Try.underlying47 rfl (info_arr_l _) ?_
      exact ⟨by rw [Array.toArray_toList]; rfl, hS⟩
    · go_wp2_with fail
      first | rfl | exact ⟨rfl, hS⟩
    · refine wp_load_mid 47 (.tmp 14) rfl (w.heap.size + 1) 1 rfl (arr y.testBit).toList _ (whole_range (k2.below hS (by omega))) Try.underlying47 rfl (info_arr_l _) ?_
      exact ⟨by rw [Array.toArray_toList]; rfl, hS⟩
    · go_wp2_with fail
      refine (rplus_any x y w').mono ?_
      rintro e w'' ⟨rfl, hb2⟩
      exact ⟨rfl, andB hS hb2⟩
    · refine wp_build_of 49 #[(0, .tmp 11), (1, .tmp 16)] rfl #[(0, .bool na), (1, .agg (arr (x + y).testBit))] (by simp [Act.eval]) _ (build_whole2 na _ _) ?_
      exact ⟨rfl, hS⟩
  · simp only [List.getD_cons_succ, List.getD_cons_zero]
    intro w' hS
    with_reducible refine OpTo.plain ?_ ?_
    exact rfl
    refine wp_store_row 49 (.tmp 4) (.tmp 17) rfl (w.heap.size + 1 + 1) (whole na (x + y).testBit) rfl rfl 49 _ (k3.below hS hs3).out (info_whole _ _) (by simp only [whole_size]) (whole_one _ _) ⟨rfl, ?_⟩
    go_wp2_with fail
    refine bodyPost_ret (v := wholeV na (x + y)) (results_cell_row rfl _ _ (w.heap.size + 1 + 1) 49 (whole na (x + y).testBit) (0, 0) _ rfl (k3.below hS hs3).row Try.underlying49 rfl (info_whole _ _)) rfl ⟨rfl, ?_⟩
    exact below_setRow (hb.trans (hS.mono (by omega))) (by omega) _

set_option maxHeartbeats 4000000 in
set_option maxRecDepth 100000 in
theorem together_lt (na : Bool) (x y : Nat) (w : World) (hx : x < 2 ^ 192) (hy : y < 2 ^ 192) (hlt : x < y) :
    Calls Try.prog 30 #[wholeV na x, wholeV (!na) y] w fun e w' => e = .returned (wholeV (!na) (y - x)) ∧ Below w.heap.size w w' := by
  have hz := zero_whole
  have hne : (na == !na) = false := by cases na <;> rfl
  have cg := Lib.hid (fun w => rgreater_any y x w hy hx)
  have HL := Lib.hid hlt
  have hdec : decide (x < y) = true := by simp; omega
  rw [hdec] at cg
  clear hx hy hdec hlt
  unfold wholeV
  go_enter Try.func30, Try.ntmps30
  have k1 : Blk (((w.alloc (.cells (whole na x.testBit) 49)).alloc (.cells (whole (!na) y.testBit) 49)).alloc (.cells (whole false fun _ => false) 49)) w.heap.size (whole na x.testBit) 49 := ((Blk.new _ _ _).alloc _).alloc _
  have k2 : Blk (((w.alloc (.cells (whole na x.testBit) 49)).alloc (.cells (whole (!na) y.testBit) 49)).alloc (.cells (whole false fun _ => false) 49)) (w.heap.size + 1) (whole (!na) y.testBit) 49 := (Blk.newAt _ _ _ (by simp)).alloc _
  have k3 : Blk (((w.alloc (.cells (whole na x.testBit) 49)).alloc (.cells (whole (!na) y.testBit) 49)).alloc (.cells (whole false fun _ => false) 49)) (w.heap.size + 1 + 1) (whole false fun _ => false) 49 := Blk.newAt _ _ _ (by simp)
  have c1 := k1.cell 0; rw [whole_get0] at c1
  have c2 := k2.cell 0; rw [whole_get0] at c2
  have hb : Below w.heap.size w (((w.alloc (.cells (whole na x.testBit) 49)).alloc (.cells (whole (!na) y.testBit) 49)).alloc (.cells (whole false fun _ => false) 49)) := (((Below.refl _ _).alloc (Nat.le_refl _) _).alloc (by simp) _).alloc (by simp; omega) _
  iterate 20 go_step
  generalize ((w.alloc (.cells (whole na x.testBit) 49)).alloc (.cells (whole (!na) y.testBit) 49)).alloc (.cells (whole false fun _ => false) 49) = W0 at *
  have m1 := Lib.hid k1; have m2 := Lib.hid k2; have m3 := Lib.hid k3
  go_wp2_with (first
    | ((with_reducible refine wpList_load_mid ?_ 47 (.tmp 18) ?_ (w.heap.size + 1) 1 ?_ (arr y.testBit).toList _ (whole_range m2.out) Try.underlying47 ?_ (info_arr_l _) ?_); exact rfl; exact rfl; exact rfl; exact rfl; rw [Array.toArray_toList])
    | ((with_reducible refine wpList_load_mid ?_ 47 (.tmp 20) ?_ w.heap.size 1 ?_ (arr x.testBit).toList _ (whole_range m1.out) Try.underlying47 ?_ (info_arr_l _) ?_); exact rfl; exact rfl; exact rfl; exact rfl; rw [Array.toArray_toList])
    | (go_at_call 40; refine (cg.out _).mono ?_; rintro e W ⟨rfl, hbg⟩))
  have q1 := m1.out.below hbg m1.out.lt; have q2 := m2.out.below hbg m2.out.lt; have q3 := m3.out.below hbg m3.out.lt
  have e1 := q1.cell 0; rw [whole_get0] at e1
  have e2 := q2.cell 0; rw [whole_get0] at e2
  have hb2 := andB hb (hbg.mono (by have := hb.size; omega))
  have hb3 : Below w.heap.size w W := hb.trans (hbg.mono hb.size)
  have hs3 := q3.lt
  clear c1 c2 k1 k2 k3 hb2
  refine region_tail (by kernel_rfl) 8 [.pointer (some ⟨w.heap.size + 1, 0, none⟩), .bool (!na), .pointer (some ⟨w.heap.size + 1, 1, none⟩), .agg (arr y.testBit), .pointer (some ⟨w.heap.size, 1, none⟩), .agg (arr x.testBit), .agg (arr (y - x).testBit), .agg (whole (!na) (y - x).testBit)]
    (fun w' => Below W.heap.size W w') (by kernel_rfl) rfl (by kernel_rfl) (Below.refl _ _).drew ?_
  intro af haf
  simp only [puts, Act.put, List.getD_cons_zero, List.getD_cons_succ, List.setIfInBounds_toArray, List.set_cons_succ, List.set_cons_zero] at haf
  subst haf
  refine ⟨?_, ?_⟩
  · simp only [List.take_succ_cons, List.take_zero, EachTo]
    refine ⟨?_, ?_, ?_, ?_, ?_, ?_, ?_, ?_, trivial⟩
    all_goals
      intro w' hS
      with_reducible refine OpTo.plain ?_ ?_
      exact rfl
    · go_wp2_with fail
      first | rfl | exact ⟨rfl, hS⟩
    · have d1 := (q2.below hS (by omega)).cell 0; rw [whole_get0] at d1
      go_wp2_with fail
      first | rfl | exact ⟨rfl, hS⟩
    · go_wp2_with fail
      first | rfl | exact ⟨rfl, hS⟩
    · refine wp_load_mid 47 (.tmp 25) rfl (w.heap.size + 1) 1 rfl (arr y.testBit).toList _ (whole_range (q2.below hS (by omega))) Try.underlying47 rfl (info_arr_l _) ?_
      exact ⟨by rw [Array.toArray_toList]; rfl, hS⟩
    · go_wp2_with fail
      first | rfl | exact ⟨rfl, hS⟩
    · refine wp_load_mid 47 (.tmp 27) rfl (w.heap.size) 1 rfl (arr x.testBit).toList _ (whole_range (q1.below hS (by omega))) Try.underlying47 rfl (info_arr_l _) ?_
      exact ⟨by rw [Array.toArray_toList]; rfl, hS⟩
    · go_wp2_with fail
      refine (rless_any y x w' (by have := HL.out; omega)).mono ?_
      rintro e w'' ⟨rfl, hb2⟩
      exact ⟨rfl, andB hS hb2⟩
    · refine wp_build_of 49 #[(0, .tmp 24), (1, .tmp 29)] rfl #[(0, .bool (!na)), (1, .agg (arr (y - x).testBit))] (by simp [Act.eval]) _ (build_whole2 _ _ _) ?_
      exact ⟨rfl, hS⟩
  · simp only [List.getD_cons_succ, List.getD_cons_zero]
    intro w' hS
    with_reducible refine OpTo.plain ?_ ?_
    exact rfl
    refine wp_store_row 49 (.tmp 4) (.tmp 30) rfl (w.heap.size + 1 + 1) (whole (!na) (y - x).testBit) rfl rfl 49 _ (q3.below hS hs3).out (info_whole _ _) (by simp only [whole_size]) (whole_one _ _) ⟨rfl, ?_⟩
    go_wp2_with fail
    refine bodyPost_ret (v := wholeV (!na) (y - x)) (results_cell_row rfl _ _ (w.heap.size + 1 + 1) 49 (whole (!na) (y - x).testBit) (0, 0) _ rfl (q3.below hS hs3).row Try.underlying49 rfl (info_whole _ _)) rfl ⟨rfl, ?_⟩
    exact below_setRow (hb3.trans (hS.mono (by omega))) (by omega) _

set_option maxHeartbeats 4000000 in
set_option maxRecDepth 100000 in
theorem together_ge (na : Bool) (x y : Nat) (w : World) (hx : x < 2 ^ 192) (hy : y < 2 ^ 192) (hlt : y ≤ x) :
    Calls Try.prog 30 #[wholeV na x, wholeV (!na) y] w fun e w' => e = .returned (wholeV na (x - y)) ∧ Below w.heap.size w w' := by
  have hz := zero_whole
  have hne : (na == !na) = false := by cases na <;> rfl
  have cg := Lib.hid (fun w => rgreater_any y x w hy hx)
  have HL := Lib.hid hlt
  have hdec : decide (x < y) = false := by simp; omega
  rw [hdec] at cg
  clear hx hy hdec hlt
  unfold wholeV
  go_enter Try.func30, Try.ntmps30
  have k1 : Blk (((w.alloc (.cells (whole na x.testBit) 49)).alloc (.cells (whole (!na) y.testBit) 49)).alloc (.cells (whole false fun _ => false) 49)) w.heap.size (whole na x.testBit) 49 := ((Blk.new _ _ _).alloc _).alloc _
  have k2 : Blk (((w.alloc (.cells (whole na x.testBit) 49)).alloc (.cells (whole (!na) y.testBit) 49)).alloc (.cells (whole false fun _ => false) 49)) (w.heap.size + 1) (whole (!na) y.testBit) 49 := (Blk.newAt _ _ _ (by simp)).alloc _
  have k3 : Blk (((w.alloc (.cells (whole na x.testBit) 49)).alloc (.cells (whole (!na) y.testBit) 49)).alloc (.cells (whole false fun _ => false) 49)) (w.heap.size + 1 + 1) (whole false fun _ => false) 49 := Blk.newAt _ _ _ (by simp)
  have c1 := k1.cell 0; rw [whole_get0] at c1
  have c2 := k2.cell 0; rw [whole_get0] at c2
  have hb : Below w.heap.size w (((w.alloc (.cells (whole na x.testBit) 49)).alloc (.cells (whole (!na) y.testBit) 49)).alloc (.cells (whole false fun _ => false) 49)) := (((Below.refl _ _).alloc (Nat.le_refl _) _).alloc (by simp) _).alloc (by simp; omega) _
  iterate 20 go_step
  generalize ((w.alloc (.cells (whole na x.testBit) 49)).alloc (.cells (whole (!na) y.testBit) 49)).alloc (.cells (whole false fun _ => false) 49) = W0 at *
  have m1 := Lib.hid k1; have m2 := Lib.hid k2; have m3 := Lib.hid k3
  go_wp2_with (first
    | ((with_reducible refine wpList_load_mid ?_ 47 (.tmp 18) ?_ (w.heap.size + 1) 1 ?_ (arr y.testBit).toList _ (whole_range m2.out) Try.underlying47 ?_ (info_arr_l _) ?_); exact rfl; exact rfl; exact rfl; exact rfl; rw [Array.toArray_toList])
    | ((with_reducible refine wpList_load_mid ?_ 47 (.tmp 20) ?_ w.heap.size 1 ?_ (arr x.testBit).toList _ (whole_range m1.out) Try.underlying47 ?_ (info_arr_l _) ?_); exact rfl; exact rfl; exact rfl; exact rfl; rw [Array.toArray_toList])
    | (go_at_call 40; refine (cg.out _).mono ?_; rintro e W ⟨rfl, hbg⟩))
  have q1 := m1.out.below hbg m1.out.lt; have q2 := m2.out.below hbg m2.out.lt; have q3 := m3.out.below hbg m3.out.lt
  have e1 := q1.cell 0; rw [whole_get0] at e1
  have e2 := q2.cell 0; rw [whole_get0] at e2
  have hb2 := andB hb (hbg.mono (by have := hb.size; omega))
  have hb3 : Below w.heap.size w W := hb.trans (hbg.mono hb.size)
  have hs3 := q3.lt
  clear c1 c2 k1 k2 k3 hb2
  refine region_tail (by kernel_rfl) 8 [.pointer (some ⟨w.heap.size, 0, none⟩), .bool na, .pointer (some ⟨w.heap.size, 1, none⟩), .agg (arr x.testBit), .pointer (some ⟨w.heap.size + 1, 1, none⟩), .agg (arr y.testBit), .agg (arr (x - y).testBit), .agg (whole na (x - y).testBit)]
    (fun w' => Below W.heap.size W w') (by kernel_rfl) rfl (by kernel_rfl) (Below.refl _ _).drew ?_
  intro af haf
  simp only [puts, Act.put, List.getD_cons_zero, List.getD_cons_succ, List.setIfInBounds_toArray, List.set_cons_succ, List.set_cons_zero] at haf
  subst haf
  refine ⟨?_, ?_⟩
  · simp only [List.take_succ_cons, List.take_zero, EachTo]
    refine ⟨?_, ?_, ?_, ?_, ?_, ?_, ?_, ?_, trivial⟩
    all_goals
      intro w' hS
      with_reducible refine OpTo.plain ?_ ?_
      exact rfl
    · go_wp2_with fail
      first | rfl | exact ⟨rfl, hS⟩
    · have d1 := (q1.below hS (by omega)).cell 0; rw [whole_get0] at d1
      go_wp2_with fail
      first | rfl | exact ⟨rfl, hS⟩
    · go_wp2_with fail
      first | rfl | exact ⟨rfl, hS⟩
    · refine wp_load_mid 47 (.tmp 33) rfl (w.heap.size) 1 rfl (arr x.testBit).toList _ (whole_range (q1.below hS (by omega))) Try.underlying47 rfl (info_arr_l _) ?_
      exact ⟨by rw [Array.toArray_toList]; rfl, hS⟩
    · go_wp2_with fail
      first | rfl | exact ⟨rfl, hS⟩
    · refine wp_load_mid 47 (.tmp 35) rfl (w.heap.size + 1) 1 rfl (arr y.testBit).toList _ (whole_range (q2.below hS (by omega))) Try.underlying47 rfl (info_arr_l _) ?_
      exact ⟨by rw [Array.toArray_toList]; rfl, hS⟩
    · go_wp2_with fail
      refine (rless_any x y w' (by have := HL.out; omega)).mono ?_
      rintro e w'' ⟨rfl, hb2⟩
      exact ⟨rfl, andB hS hb2⟩
    · refine wp_build_of 49 #[(0, .tmp 32), (1, .tmp 37)] rfl #[(0, .bool na), (1, .agg (arr (x - y).testBit))] (by simp [Act.eval]) _ (build_whole2 _ _ _) ?_
      exact ⟨rfl, hS⟩
  · simp only [List.getD_cons_succ, List.getD_cons_zero]
    intro w' hS
    with_reducible refine OpTo.plain ?_ ?_
    exact rfl
    refine wp_store_row 49 (.tmp 4) (.tmp 38) rfl (w.heap.size + 1 + 1) (whole na (x - y).testBit) rfl rfl 49 _ (q3.below hS hs3).out (info_whole _ _) (by simp only [whole_size]) (whole_one _ _) ⟨rfl, ?_⟩
    go_wp2_with fail
    refine bodyPost_ret (v := wholeV na (x - y)) (results_cell_row rfl _ _ (w.heap.size + 1 + 1) 49 (whole na (x - y).testBit) (0, 0) _ rfl (q3.below hS hs3).row Try.underlying49 rfl (info_whole _ _)) rfl ⟨rfl, ?_⟩
    exact below_setRow (hb3.trans (hS.mono (by omega))) (by omega) _

theorem together_any (na nb : Bool) (x y : Nat) (w : World) (hx : x < 2 ^ 192) (hy : y < 2 ^ 192) :
    Calls Try.prog 30 #[wholeV na x, wholeV nb y] w fun e w' => e = .returned (wholeV (togSign na nb x y) (togSize na nb x y)) ∧ Below w.heap.size w w' := by
  unfold togSign togSize
  by_cases h : na = nb
  · subst h; simp only [if_true]; exact together_same na x y w
  · obtain rfl : nb = !na := by cases na <;> cases nb <;> simp_all
    rw [if_neg h, if_neg h]
    by_cases hlt : x < y
    · rw [if_pos hlt, if_pos hlt]; exact together_lt na x y w hx hy hlt
    · rw [if_neg hlt, if_neg hlt]; exact together_ge na x y w hx hy (by omega)

end Go.Proofs.Ytonbinbjddameaa
